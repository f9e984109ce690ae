/-
  Rows of events; what a watch's Tick asks of a node.
-/
import Derived.Test.YtjdfacjfpdfafaaHh
import Derived.Test.YtjdfacjfpdfafaaZa
namespace Go.Proofs.Ytjdfacjfpdfafaa
open Go.RowKit

theorem cl11 {W W' : World} {p : Addr} {v : Value} (hb : Below W.heap.size W W') (h : W.cell? p = some v) : W'.cell? p = some v := (hb.cell (p := p) (block_lt_of_cell h)).trans h
/-- An event: the node, its kind, the state. -/
structure Ev where
  n : Int
  k : Int
  s : Int
def Ev.C (e : Ev) : List Value := [.int .u8 e.n, .int .u8 e.k, .int .u8 e.s]
def evC (l : List Ev) : List Value := l.flatMap Ev.C
theorem evC_app (l : List Ev) (e : Ev) : evC (l ++ [e]) = evC l ++ e.C := by simp [evC]
theorem infoE : (Try.prog.info? 54).map (fun i => (i.zero, i.size, i.bytes)) = some (some (.agg #[.int .u8 0, .int .u8 0, .int .u8 0]), 3, 3) := by kernel_rfl
/-- A row of events of one's own. -/
abbrev IsEv (w : World) (v : Value) (l : List Ev) : Prop := Own w 54 3 v l.length (evC l)
theorem own_ne {w : World} {e : TypeId} {k n j : Nat} {v : Value} {xs : List Value} {C : Array Value} {T : TypeId} {f : Nat × Nat} (h : Own w e k v n xs) (hj : w.heap[j]? = some (.cells C T f)) (hT : T ≠ e) : v.ownBlock ≠ some j := by
  rcases h with ⟨rfl, _⟩ | ⟨g, o, cap, rfl, h⟩
  · intro e; cases e
  · intro e
    cases e
    obtain ⟨cur, c1, _⟩ := h.cur
    rw [c1] at hj
    cases hj
    exact hT rfl
/-- Is a node gone at a time? -/
def goneB (x : Nd) (now : Int) : Bool := decide (0 < x.W) && (x.on && decide (x.t + x.W ≤ now))
def Nd.tick (x : Nd) (now : Int) : Nd := if goneB x now = true then { x with g := true } else x
def tickK (now : Int) (S : List Nd) (k : Nat) : List Nd := (S.take k).map (·.tick now) ++ S.drop k
/-- The events of the first k. -/
def evK (now : Int) (S : List Nd) : Nat → List Ev
  | 0 => []
  | k + 1 => match S[k]? with
    | none => evK now S k
    | some x => if goneB x now = true then evK now S k ++ [⟨(k : Int), 4, x.s⟩] else evK now S k
theorem evK_len (now : Int) (S : List Nd) : ∀ k, (evK now S k).length ≤ k
  | 0 => Nat.le_refl _
  | k + 1 => by
    have := evK_len now S k
    simp only [evK]
    split
    · omega
    · split
      · rw [List.length_append, List.length_singleton]; omega
      · omega
theorem tickK_at {now : Int} {S : List Nd} {k : Nat} {x : Nd} (h : S[k]? = some x) : (tickK now S k)[k]? = some x := by
  have hk := (List.getElem?_eq_some_iff.1 h).1
  unfold tickK
  rw [List.getElem?_append_right (by rw [List.length_map, List.length_take]; omega), List.length_map, List.length_take, Nat.min_eq_left (by omega), Nat.sub_self, List.getElem?_drop, Nat.add_zero]
  exact h
theorem tickK_set {now : Int} {S : List Nd} {k : Nat} {x : Nd} (h : S[k]? = some x) : (tickK now S k).set k (x.tick now) = tickK now S (k + 1) := by
  obtain ⟨hk, he⟩ := List.getElem?_eq_some_iff.1 h
  unfold tickK
  rw [List.set_append_right _ _ (by rw [List.length_map, List.length_take]; omega), List.length_map, List.length_take, Nat.min_eq_left (by omega), Nat.sub_self, List.drop_eq_getElem_cons hk, List.set_cons_zero, List.take_succ_eq_append_getElem hk, List.map_append, he]
  simp
theorem tickK_no {now : Int} {S : List Nd} {k : Nat} {x : Nd} (h : S[k]? = some x) (hg : goneB x now = false) : tickK now S (k + 1) = tickK now S k := by
  rw [← tickK_set h]
  have : x.tick now = x := by unfold Nd.tick; rw [if_neg (by simp [hg])]
  rw [this]
  obtain ⟨q1, q2⟩ := List.getElem?_eq_some_iff.1 (tickK_at (now := now) h)
  conv => lhs; rw [← q2]
  exact List.set_getElem_self q1
theorem evK_no {now : Int} {S : List Nd} {k : Nat} {x : Nd} (h : S[k]? = some x) (hg : goneB x now = false) : evK now S (k + 1) = evK now S k := by
  simp [evK, h, hg]
theorem evK_yes {now : Int} {S : List Nd} {k : Nat} {x : Nd} (h : S[k]? = some x) (hg : goneB x now = true) : evK now S (k + 1) = evK now S k ++ [⟨(k : Int), 4, x.s⟩] := by
  simp [evK, h, hg]
theorem tickK_all (now : Int) {S : List Nd} (h : S.length = 128) : tickK now S 128 = S.map (·.tick now) := by
  unfold tickK; rw [List.take_of_length_le (by omega), List.drop_of_length_le (by omega), List.append_nil]
/-- The boxes of Tick's closure: the time, and the events. -/
def TBox (w : World) (base nb lb : Nat) (now : Int) (l : List Ev) : Prop := w.heap[nb]? = some (.cells #[.int .i64 now] 2 (0, 0)) ∧ ∃ v, w.heap[lb]? = some (.cells #[v] 62 (0, 0)) ∧ IsEv w v l ∧ ∀ g, v.ownBlock = some g → base ≤ g
theorem TBox.next {w w' : World} {base nb lb : Nat} {now : Int} {l : List Ev} (h : TBox w base nb lb now l) (hb : Below w.heap.size w w') : TBox w' base nb lb now l := by
  obtain ⟨h1, v, h2, h3, h4⟩ := h
  exact ⟨blk11 hb h1, v, blk11 hb h2, h3.next hb, h4⟩
/-- How far Tick has come. -/
structure TkI (w0 W : World) (base p nb lb : Nat) (P : List (Option Nat)) (S : List Nd) (now : Int) (k : Nat) : Prop where
  w : IsW W base p P (tickK now S k)
  t : TBox W w0.heap.size nb lb now (evK now S k)
  k : Kt base w0 W
theorem TkI.next {w0 W W' : World} {base p nb lb : Nat} {P : List (Option Nat)} {S : List Nd} {now : Int} {k : Nat} (h : TkI w0 W base p nb lb P S now k) (hb : Below W.heap.size W W') : TkI w0 W' base p nb lb P S now k :=
  ⟨h.w.next hb, h.t.next hb, h.k.trans (Kt.of hb)⟩
/-- What an append and a store leave. -/
theorem TkI.put {w0 W2 X w3 : World} {base p nb lb g o cap : Nat} {P : List (Option Nat)} {S : List Nd} {now : Int} {k : Nat} {v : Value} {l : List Ev} {e : Ev} (hW : IsW W2 base p P (tickK now S (k + 1))) (hX : Below W2.heap.size W2 X) (hn : W2.heap[nb]? = some (.cells #[.int .i64 now] 2 (0, 0))) (hl : W2.heap[lb]? = some (.cells #[v] 62 (0, 0)))
    (hv : IsEv W2 v l) (hb : ∀ g, v.ownBlock = some g → w0.heap.size ≤ g) (hk : Kt base w0 W2) (h0 : w0.heap.size ≤ W2.heap.size) (hlb : w0.heap.size ≤ lb) (hO : OwnAt w3 54 3 g o (l.length + 1) cap (evC l ++ e.C)) (hg : v.ownBlock = some g ∨ g = X.heap.size) (hK : Kp v.ownBlock.toList X w3) (hE : evK now S (k + 1) = l ++ [e]) :
    TkI w0 (w3.setCell ⟨lb, 0, none⟩ (.slice (some ⟨g, o, none⟩) (l.length + 1) cap)) base p nb lb P S now (k + 1) := by
  have keep : ∀ (j : Nat) (C : Array Value) (T : TypeId) (f : Nat × Nat), W2.heap[j]? = some (.cells C T f) → T ≠ 54 → w3.heap[j]? = some (.cells C T f) := fun j C T f hj hT =>
    hK.at (fun hm => own_ne hv hj hT (by simpa using hm)) (blk11 hX hj)
  have keep2 : ∀ (j : Nat) (C : Array Value) (T : TypeId) (f : Nat × Nat), W2.heap[j]? = some (.cells C T f) → T ≠ 54 → T ≠ 62 → (w3.setCell ⟨lb, 0, none⟩ (.slice (some ⟨g, o, none⟩) (l.length + 1) cap)).heap[j]? = some (.cells C T f) := fun j C T f hj hT hL =>
    (Below.heap_setCell _ _ _ _ (fun e => by have e : j = lb := by simpa using e
                                             subst e; rw [hl] at hj; cases hj; exact hL rfl)).trans (keep j C T f hj hT)
  have hl3 := keep lb _ _ _ hl (by decide)
  have ngl : lb ≠ g := fun e => by
    obtain ⟨cur, c1, _⟩ := hO.cur
    rw [← e, hl3] at c1
    cases c1
  refine ⟨hW.same fun j C T f hj ht => ?_, ⟨keep2 nb _ _ _ hn (by decide) (by decide), .slice (some ⟨g, o, none⟩) (l.length + 1) cap, ?_, ?_, ?_⟩, ?_⟩
  · rcases ht with rfl | rfl
    · exact keep2 j _ _ _ hj (by decide) (by decide)
    · exact keep2 j _ _ _ hj (by decide) (by decide)
  · rw [heap_setCell_same _ _ _ _ _ _ hl3]
    rfl
  · rw [hE]
    refine .inr ⟨g, o, cap, by simp, ?_⟩
    rw [evC_app, List.length_append, List.length_singleton]
    exact hO.same (Below.heap_setCell _ _ _ _ (fun e => ngl (by simpa using e.symm)))
  · intro g' hg'
    cases hg'
    rcases hg with hg | hg
    · exact hb _ hg
    · show w0.heap.size ≤ g
      have := hX.size
      omega
  · have s3 := hK.size
    have sX := hX.size
    have old : ∀ j, j < w0.heap.size → (w3.setCell ⟨lb, 0, none⟩ (.slice (some ⟨g, o, none⟩) (l.length + 1) cap)).heap[j]? = W2.heap[j]? := fun j hj => by
      refine (Below.heap_setCell _ _ _ _ (fun e => by have e : j = lb := by simpa using e
                                                      omega)).trans ((hK.block j (by omega) (fun hm => ?_)).trans (hX.block j (by omega)))
      have := hb j (by simpa using hm)
      omega
    exact ⟨(hK.os.trans hX.os).trans hk.os, (hK.tape.trans hX.tape).trans hk.tape, (hK.output.trans hX.output).trans hk.output, by simp [World.setCell]; omega, fun j hj hs => (old j hs).trans (hk.low j hj hs), fun j C T f hj h1 h2 => (old j (lt_of_heap hj)).trans (hk.typ j C T f hj h1 h2)⟩

set_option linter.unusedSimpArgs false in
set_option maxHeartbeats 4000000 in
set_option maxRecDepth 100000 in
theorem tick1_no {b nb lb : Nat} (k : Int) {x : Nd} {now : Int} {w : World} (h : w.heap[b]? = some (.cells (ndC x) 87 (0, 0))) (ho : x.Ok) (hn : w.heap[nb]? = some (.cells #[.int .i64 now] 2 (0, 0))) (hg : now < x.t + x.W) :
    Calls Try.prog 40 #[.int .u8 k, pt b, .pointer (some ⟨nb, 0, none⟩), .pointer (some ⟨lb, 0, none⟩)] w fun e w' => e = .returned (.tuple #[]) ∧ Below w.heap.size w w' := by
  have LA : Hid (∀ W, Below w.heap.size w W → Calls Try.prog 41 #[pt b] W fun e w' => e = .returned (.int .i64 (x.t + x.W)) ∧ Below W.heap.size W w') := fun W hW => late_any (blk11 hW h) ho
  have cn : w.cell? ⟨nb, 0, none⟩ = some (.int .i64 now) := by rw [cell_of_row w _ 0 _ _ _ hn]; rfl
  obtain ⟨t, ht⟩ : ∃ t, t = x.t + x.W := ⟨_, rfl⟩
  rw [← ht] at LA hg
  have hg' : ¬ t ≤ now := by omega
  clear h ho hn ht hg
  go_enter Try.func40, Try.ntmps40
  go_wp2_with fail
  refine wp_region_held_drew (S := fun x => Below w.heap.size w x ∧ x.cell? ⟨nb, 0, none⟩ = some (.int .i64 now)) (by kernel_rfl) (⟨Below.drew (Below.refl _ _), cn⟩) (fun hHeld => ?_)
  refine wpAnyH_take (i := 0) (v := (.int .i64 now)) rfl (by kernel_rfl) (by kernel_rfl) (by kernel_rfl) (fun _ _ _ h => h) (Or.inl ⟨by rfl, ?_⟩) (by assumption) ?_
  · intro w9 hSw
    try dsimp only at hSw
    go_simp
    all_goals try decide
    all_goals try assumption
    all_goals try omega
  try simp only [Act.put, List.getElem_toArray, List.getElem_cons_succ, List.getElem_cons_zero, List.setIfInBounds_toArray, List.set_cons_zero, List.set_cons_succ]
  refine wpAnyH_take (i := 1) (v := (.pointer (some ⟨b, 0, none⟩))) rfl (by kernel_rfl) (by kernel_rfl) (by kernel_rfl) (fun _ _ _ h => h) (Or.inl ⟨by rfl, ?_⟩) (by assumption) ?_
  · intro w9 hSw
    try dsimp only at hSw
    go_simp
    all_goals try decide
    all_goals try assumption
    all_goals try omega
  try simp only [Act.put, List.getElem_toArray, List.getElem_cons_succ, List.getElem_cons_zero, List.setIfInBounds_toArray, List.set_cons_zero, List.set_cons_succ]
  refine wpAnyH_ready (rs := [2]) (by kernel_rfl) (by simp) ?_
  refine AllReadyH.cons rfl (fun K' hK => ?_) AllReadyH.nil
  rw [if_pos (by rfl)]
  simp only [List.getElem_toArray, List.getElem_cons_succ, List.getElem_cons_zero]
  obtain ⟨S0, S1⟩ := hHeld
  go_wp2_with fail
  refine (LA.out _ S0).mono ?_
  rintro e w1 ⟨rfl, hb⟩
  try go_wp2_with fail
  refine hK.out _ _ (⟨Below.andThen S0 hb, cl11 hb S1⟩) (fun hHeld => ?_)
  clear hK K'
  try simp only [Act.put, List.getElem_toArray, List.getElem_cons_succ, List.getElem_cons_zero, List.setIfInBounds_toArray, List.set_cons_zero, List.set_cons_succ]
  clear hb
  refine wpAnyH_take (i := 3) (v := (.bool false)) rfl (by kernel_rfl) (by kernel_rfl) (by kernel_rfl) (fun _ _ _ h => h) (Or.inl ⟨by rfl, ?_⟩) (by assumption) ?_
  · intro w9 hSw
    try dsimp only at hSw
    go_simp
    all_goals try (simp; omega)
    all_goals try omega
  try simp only [Act.put, List.getElem_toArray, List.getElem_cons_succ, List.getElem_cons_zero, List.setIfInBounds_toArray, List.set_cons_zero, List.set_cons_succ]
  refine wpAnyH_done (by kernel_rfl) ?_ _
  go_wp2_with fail
  go_end0
  exact ⟨rfl, hHeld.1⟩
#print axioms tick1_no

set_option linter.unusedSimpArgs false in
set_option maxHeartbeats 4000000 in
set_option maxRecDepth 100000 in
theorem tick1_yes {w0 w : World} {base p nb lb k b : Nat} {P : List (Option Nat)} {S : List Nd} {now : Int} (h : TkI w0 w base p nb lb P S now k) {x : Nd} (hx : S[k]? = some x) (hp : P[k]? = some (some b)) (hg : goneB x now = true) (hlb : w0.heap.size ≤ lb) (hk : k < 128) (h0 : w0.heap.size ≤ w.heap.size) :
    Calls Try.prog 40 #[.int .u8 (k : Int), pt b, .pointer (some ⟨nb, 0, none⟩), .pointer (some ⟨lb, 0, none⟩)] w fun e w' => e = .returned (.tuple #[]) ∧ TkI w0 w' base p nb lb P S now (k + 1) := by
  obtain ⟨b0, x', hx', xW, hb⟩ := h.w.some_ k b hp
  rw [tickK_at hx] at hx'
  cases hx'
  have ho : x.Ok := h.w.ok x (List.mem_of_getElem? (tickK_at hx))
  obtain ⟨hn, v, hl, hv, hvb⟩ := h.t
  have gg : x.on = true ∧ x.t + x.W ≤ now := by simp [goneB] at hg; exact ⟨hg.2.1, hg.2.2⟩
  have LA : Hid (∀ W, Below w.heap.size w W → Calls Try.prog 41 #[pt b] W fun e w' => e = .returned (.int .i64 (x.t + x.W)) ∧ Below W.heap.size W w') := fun W hW => late_any (blk11 hW hb) ho
  have cn : w.cell? ⟨nb, 0, none⟩ = some (.int .i64 now) := by rw [cell_of_row w _ 0 _ _ _ hn]; rfl
  obtain ⟨t, ht⟩ : ∃ t, t = x.t + x.W := ⟨_, rfl⟩
  rw [← ht] at LA
  have hg' : t ≤ now := by omega
  have TI : Hid (TkI w0 w base p nb lb P S now k) := h
  have XF : Hid (S[k]? = some x ∧ P[k]? = some (some b) ∧ goneB x now = true ∧ w0.heap.size ≤ lb ∧ w0.heap.size ≤ w.heap.size ∧ x.Ok ∧ 0 < x.W ∧ x.on = true) := ⟨hx, hp, hg, hlb, h0, ho, xW, gg.1⟩
  have HB : Hid (w.heap[b]? = some (.cells (ndC x) 87 (0, 0))) := hb
  clear h hx hp hg hlb h0 ho xW gg hn hl hv hvb ht b0 hb v
  go_enter Try.func40, Try.ntmps40
  go_wp2_with fail
  refine wp_region_held_drew (S := fun x => Below w.heap.size w x ∧ x.cell? ⟨nb, 0, none⟩ = some (.int .i64 now)) (by kernel_rfl) (⟨Below.drew (Below.refl _ _), cn⟩) (fun hHeld => ?_)
  refine wpAnyH_take (i := 0) (v := (.int .i64 now)) rfl (by kernel_rfl) (by kernel_rfl) (by kernel_rfl) (fun _ _ _ h => h) (Or.inl ⟨by rfl, ?_⟩) (by assumption) ?_
  · intro w9 hSw
    try dsimp only at hSw
    go_simp
    all_goals try decide
    all_goals try assumption
    all_goals try omega
  try simp only [Act.put, List.getElem_toArray, List.getElem_cons_succ, List.getElem_cons_zero, List.setIfInBounds_toArray, List.set_cons_zero, List.set_cons_succ]
  refine wpAnyH_take (i := 1) (v := (.pointer (some ⟨b, 0, none⟩))) rfl (by kernel_rfl) (by kernel_rfl) (by kernel_rfl) (fun _ _ _ h => h) (Or.inl ⟨by rfl, ?_⟩) (by assumption) ?_
  · intro w9 hSw
    try dsimp only at hSw
    go_simp
    all_goals try decide
    all_goals try assumption
    all_goals try omega
  try simp only [Act.put, List.getElem_toArray, List.getElem_cons_succ, List.getElem_cons_zero, List.setIfInBounds_toArray, List.set_cons_zero, List.set_cons_succ]
  refine wpAnyH_ready (rs := [2]) (by kernel_rfl) (by simp) ?_
  refine AllReadyH.cons rfl (fun K' hK => ?_) AllReadyH.nil
  rw [if_pos (by rfl)]
  simp only [List.getElem_toArray, List.getElem_cons_succ, List.getElem_cons_zero]
  obtain ⟨S0, S1⟩ := hHeld
  go_wp2_with fail
  refine (LA.out _ S0).mono ?_
  rintro e w1 ⟨rfl, hb⟩
  try go_wp2_with fail
  refine hK.out _ _ (⟨Below.andThen S0 hb, cl11 hb S1⟩) (fun hHeld => ?_)
  clear hK K'
  try simp only [Act.put, List.getElem_toArray, List.getElem_cons_succ, List.getElem_cons_zero, List.setIfInBounds_toArray, List.set_cons_zero, List.set_cons_succ]
  clear hb
  refine wpAnyH_take (i := 3) (v := (.bool true)) rfl (by kernel_rfl) (by kernel_rfl) (by kernel_rfl) (fun _ _ _ h => h) (Or.inl ⟨by rfl, ?_⟩) (by assumption) ?_
  · intro w9 hSw
    try dsimp only at hSw
    go_simp
    all_goals try (simp; omega)
    all_goals try omega
  try simp only [Act.put, List.getElem_toArray, List.getElem_cons_succ, List.getElem_cons_zero, List.setIfInBounds_toArray, List.set_cons_zero, List.set_cons_succ]
  refine wpAnyH_done (by kernel_rfl) ?_ _
  have y0 := hHeld.1
  clear hHeld LA
  generalize hy : (w1 : World) = y at y0 ⊢
  clear hy
  have gb : y.heap[b]? = some (.cells (ndC x) 87 (0, 0)) := blk11 y0 HB.out
  have g1 : y.cell? ⟨b, 1, none⟩ = some (.bool true) := by rw [cell_of_row y _ 1 _ _ _ gb]; simp [XF.out.2.2.2.2.2.2.2]
  have z1 := froz11 y b 1 _ _ gb
  have TY : TkI w0 y base p nb lb P S now k := TI.out.next y0
  have sy : w0.heap.size ≤ y.heap.size := by have := y0.size; have := XF.out.2.2.2.2.1; omega
  obtain ⟨x', hx'⟩ : ∃ x', Hid (x' = x.tick now) := ⟨_, rfl⟩
  have ex : x' = { x with g := true } := by rw [hx'.out]; unfold Nd.tick; rw [if_pos XF.out.2.2.1]
  have gb2 : (y.setCell ⟨b, 1, none⟩ (.bool false)).heap[b]? = some (.cells (ndC x') 87 (0, 0)) := by rw [heap_setCell_same _ _ _ _ _ _ gb, ex]; simp [Nd.on]
  have k2 : Kp [b] y (y.setCell ⟨b, 1, none⟩ (.bool false)) := (Kp.refl _ _).set _ _ (.inl (by simp))
  have UP := TY.w.upd XF.out.2.1 (x := x') (by rw [ex]; exact XF.out.2.2.2.2.2.2.1) (by rw [ex]; exact XF.out.2.2.2.2.2.1) k2 gb2
  rw [hx'.out, tickK_set XF.out.1] at UP
  obtain ⟨hn, v, hl, hv, hvb⟩ := TY.t
  have ot : ∀ (j : Nat) (C : Array Value) (T : TypeId) (f : Nat × Nat), y.heap[j]? = some (.cells C T f) → T ≠ 87 → (y.setCell ⟨b, 1, none⟩ (.bool false)).heap[j]? = some (.cells C T f) := fun j C T f hj hT => k2.at (by simp only [List.mem_singleton]; rintro rfl; rw [gb] at hj; cases hj; exact hT rfl) hj
  have hn2 := ot _ _ _ _ hn (by decide)
  have hl2 := ot _ _ _ _ hl (by decide)
  have hv2 : IsEv (y.setCell ⟨b, 1, none⟩ (.bool false)) v (evK now S k) := hv.kp k2 (fun g hg hm => own_ne hv gb (by decide) (by simp at hm; rw [hg, hm]))
  have kt2 : Kt base w0 (y.setCell ⟨b, 1, none⟩ (.bool false)) := TY.k.trans UP.2
  have e2 : (y.setCell ⟨b, 1, none⟩ (.bool false)).cell? ⟨b, 2, none⟩ = some (.int .u8 x.s) := by rw [cell_of_row _ _ 2 _ _ _ gb2, ex]; rfl
  have s2 : w0.heap.size ≤ (y.setCell ⟨b, 1, none⟩ (.bool false)).heap.size := by simpa [World.setCell] using sy
  have IW2 := UP.1
  go_wp2_with fail
  generalize hq : (y.setCell ⟨b, 1, none⟩ (.bool false) : World) = q at hn2 hl2 hv2 kt2 e2 s2 IW2 gb2 ⊢
  clear hq UP k2 ot hn hl hv TY TI HB gb g1 z1 y0 sy ex hx'
  obtain ⟨l, hl9⟩ : ∃ l, Hid (l = evK now S k) := ⟨_, rfl⟩
  rw [← hl9.out] at hv2
  have l9 : l.length ≤ 128 := by rw [hl9.out]; have := evK_len now S k; omega
  have E9 : evK now S (k + 1) = l ++ [⟨(k : Int), 4, x.s⟩] := by rw [hl9.out]; exact evK_yes XF.out.1 XF.out.2.2.1
  obtain ⟨a9, c9, rfl⟩ := hv2.form
  have cl : q.cell? ⟨lb, 0, none⟩ = some (.slice a9 l.length c9) := by rw [cell_of_row _ _ 0 _ _ _ hl2]; rfl
  have ltl : lb < q.heap.size := lt_of_heap hl2
  obtain ⟨sx, hsx⟩ : ∃ sx, Hid (sx = x.s) := ⟨_, rfl⟩
  rw [← hsx.out] at e2 E9
  obtain ⟨i0, hi, hz0, hz1, hz2⟩ := info_parts infoE
  have RUN := fun ty => Own.append (w := ((q.alloc (.cells #[.int .u8 (k : Int), .int .u8 4, .int .u8 sx] 54)).drew)) (ty := ty) Try.underlying62 hi hz0 hz1 hz2 rfl (by decide) (hv2.next (by repeat (first | exact Below.refl _ _ | apply Below.drew | apply Below.al))) ⟨q.heap.size, 0, none⟩ 1 1 [.int .u8 (k : Int), .int .u8 4, .int .u8 sx] rfl (fun j u hu => by rw [add_at, Nat.zero_add]; exact (cell_of_row _ _ j _ _ _ (at11 q (.cells #[.int .u8 (k : Int), .int .u8 4, .int .u8 sx] 54) q.heap.size rfl)).trans (by simpa using hu)) (fun u hu => by simp at hu; rcases hu with rfl | rfl | rfl <;> rfl) (by decide) (by omega) (by decide)
  have RUNH : Hid _ := RUN
  have FX : Hid (Below q.heap.size q ((q.alloc (.cells #[.int .u8 (k : Int), .int .u8 4, .int .u8 sx] 54)).drew)) := (by repeat (first | exact Below.refl _ _ | apply Below.drew | apply Below.al))
  have HQ : Hid (q.heap[b]? = some (.cells (ndC x') 87 (0, 0)) ∧ q.heap[lb]? = some (.cells #[.slice a9 l.length c9] 62 (0, 0)) ∧ IsEv q (.slice a9 l.length c9) l) := ⟨gb2, hl2, hv2⟩
  have FIN : Hid (∀ (w3 : World) (g o cap : Nat), OwnAt w3 54 3 g o (l.length + 1) cap (evC l ++ [.int .u8 (k : Int), .int .u8 4, .int .u8 sx]) → (Value.ownBlock (.slice a9 l.length c9) = some g ∨ g = (((q.alloc (.cells #[.int .u8 (k : Int), .int .u8 4, .int .u8 sx] 54)).drew)).heap.size) → Kp (Value.ownBlock (.slice a9 l.length c9)).toList ((q.alloc (.cells #[.int .u8 (k : Int), .int .u8 4, .int .u8 sx] 54)).drew) w3 → TkI w0 (w3.setCell ⟨lb, 0, none⟩ (.slice (some ⟨g, o, none⟩) (l.length + 1) cap)) base p nb lb P S now (k + 1)) := fun w3 g o cap hO hg hK => TkI.put (e := ⟨(k : Int), 4, sx⟩) IW2 FX.out hn2 hl2 hv2 hvb kt2 s2 XF.out.2.2.2.1 hO hg hK (by rw [E9])
  clear RUN hi hz0 hz1 hz2 hn2 hl2 hv2 hvb kt2 s2 IW2 gb2 E9 hl9 hsx S0 S1
  refine wp_region_held_drew (S := fun x1 => x1.cell? ⟨b, 2, none⟩ = some (.int .u8 sx)) (by kernel_rfl) (e2) (fun hHeld => ?_)
  refine wpAnyH_take (i := 1) (v := (.int .u8 (k : Int))) rfl (by kernel_rfl) (by kernel_rfl) (by kernel_rfl) (fun _ _ _ h => h) (Or.inl ⟨by rfl, ?_⟩) (by assumption) ?_
  · intro w9 hSw
    try dsimp only at hSw
    go_simp
    all_goals try decide
    all_goals try assumption
    all_goals try omega
  try simp only [Act.put, List.getElem_toArray, List.getElem_cons_succ, List.getElem_cons_zero, List.setIfInBounds_toArray, List.set_cons_zero, List.set_cons_succ]
  refine wpAnyH_take (i := 2) (v := (.pointer (some ⟨b, 0, none⟩))) rfl (by kernel_rfl) (by kernel_rfl) (by kernel_rfl) (fun _ _ _ h => h) (Or.inl ⟨by rfl, ?_⟩) (by assumption) ?_
  · intro w9 hSw
    try dsimp only at hSw
    go_simp
    all_goals try decide
    all_goals try assumption
    all_goals try omega
  try simp only [Act.put, List.getElem_toArray, List.getElem_cons_succ, List.getElem_cons_zero, List.setIfInBounds_toArray, List.set_cons_zero, List.set_cons_succ]
  refine wpAnyH_take (i := 3) (v := (.pointer (some ⟨b, 0, none⟩))) rfl (by kernel_rfl) (by kernel_rfl) (by kernel_rfl) (fun _ _ _ h => h) (Or.inl ⟨by rfl, ?_⟩) (by assumption) ?_
  · intro w9 hSw
    try dsimp only at hSw
    go_simp
    all_goals try decide
    all_goals try assumption
    all_goals try omega
  try simp only [Act.put, List.getElem_toArray, List.getElem_cons_succ, List.getElem_cons_zero, List.setIfInBounds_toArray, List.set_cons_zero, List.set_cons_succ]
  refine wpAnyH_take (i := 4) (v := (.pointer (some ⟨b, 2, none⟩))) rfl (by kernel_rfl) (by kernel_rfl) (by kernel_rfl) (fun _ _ _ h => h) (Or.inl ⟨by rfl, ?_⟩) (by assumption) ?_
  · intro w9 hSw
    try dsimp only at hSw
    go_simp
    all_goals try decide
    all_goals try assumption
    all_goals try omega
  try simp only [Act.put, List.getElem_toArray, List.getElem_cons_succ, List.getElem_cons_zero, List.setIfInBounds_toArray, List.set_cons_zero, List.set_cons_succ]
  refine wpAnyH_take (i := 5) (v := (.int .u8 sx)) rfl (by kernel_rfl) (by kernel_rfl) (by kernel_rfl) (fun _ _ _ h => h) (Or.inl ⟨by rfl, ?_⟩) (by assumption) ?_
  · intro w9 hSw
    try dsimp only at hSw
    go_simp
    all_goals try decide
    all_goals try assumption
    all_goals try omega
  try simp only [Act.put, List.getElem_toArray, List.getElem_cons_succ, List.getElem_cons_zero, List.setIfInBounds_toArray, List.set_cons_zero, List.set_cons_succ]
  refine wpAnyH_take (i := 6) (v := (.agg #[.int .u8 (k : Int), .int .u8 4, .int .u8 sx])) rfl (by kernel_rfl) (by kernel_rfl) (by kernel_rfl) (fun _ _ _ h => h) (Or.inl ⟨by rfl, ?_⟩) (by assumption) ?_
  · intro w9 hSw
    try dsimp only at hSw
    go_simp
    all_goals try decide
    all_goals try assumption
    all_goals try omega
  try simp only [Act.put, List.getElem_toArray, List.getElem_cons_succ, List.getElem_cons_zero, List.setIfInBounds_toArray, List.set_cons_zero, List.set_cons_succ]
  refine wpAnyH_ready (rs := [0, 7]) (by kernel_rfl) (by simp) ?_
  refine AllReadyH.cons rfl (fun K' hK => ?_) (AllReadyH.cons rfl (fun K' hK => ?_) AllReadyH.nil)
  · rw [if_pos (by rfl)]
    simp only [List.getElem_toArray, List.getElem_cons_succ, List.getElem_cons_zero]
    have S0 := hHeld
    go_wp2_with fail
    refine hK.out _ _ (S0) (fun hHeld => ?_)
    clear hK K'
    try simp only [Act.put, List.getElem_toArray, List.getElem_cons_succ, List.getElem_cons_zero, List.setIfInBounds_toArray, List.set_cons_zero, List.set_cons_succ]
    refine wpAnyH_ready (rs := [7]) (by kernel_rfl) (by simp) ?_
    refine AllReadyH.cons rfl (fun K' hK => ?_) AllReadyH.nil
    rw [if_pos (by rfl)]
    simp only [List.getElem_toArray, List.getElem_cons_succ, List.getElem_cons_zero]
    have S0 := hHeld
    go_wp2_with fail
    refine hK.out _ _ ((cl11 (Below.al (Below.refl _ _) _) S0)) (fun hHeld => ?_)
    clear hK K'
    try simp only [Act.put, List.getElem_toArray, List.getElem_cons_succ, List.getElem_cons_zero, List.setIfInBounds_toArray, List.set_cons_zero, List.set_cons_succ]
    refine wpAnyH_ready (rs := [8]) (by kernel_rfl) (by simp) ?_
    refine AllReadyH.cons rfl (fun K' hK => ?_) AllReadyH.nil
    rw [if_pos (by rfl)]
    simp only [List.getElem_toArray, List.getElem_cons_succ, List.getElem_cons_zero]
    have S0 := hHeld
    obtain ⟨g, o, cap, w3, r, hO, hg, hK⟩ := RUNH.out 62
    have Z := FIN.out w3 g o cap hO hg hK
    have FZ : Hid _ := Z
    have h3 := hK.at (j := lb) (fun hm => own_ne HQ.out.2.2 HQ.out.2.1 (by decide) (by simpa using hm)) (blk11 FX.out HQ.out.2.1)
    have S3 := Kp.cell hK S0 (fun hm => own_ne HQ.out.2.2 HQ.out.1 (by decide) (by simpa using hm))
    have c3 : w3.cell? ⟨lb, 0, none⟩ = some (.slice a9 l.length c9) := by rw [cell_of_row _ _ 0 _ _ _ h3]; rfl
    have z3 := froz11 w3 lb 0 _ _ h3
    clear Z hO hg hK
    refine wp_app_by _ _ _ rfl _ _ rfl rfl _ r ?_
    refine hK.out _ _ (S3) (fun hHeld => ?_)
    clear hK K'
    try simp only [Act.put, List.getElem_toArray, List.getElem_cons_succ, List.getElem_cons_zero, List.setIfInBounds_toArray, List.set_cons_zero, List.set_cons_succ]
    clear r
    refine wpAnyH_ready (rs := [9]) (by kernel_rfl) (by simp) ?_
    refine AllReadyH.cons rfl (fun K' hK => ?_) AllReadyH.nil
    rw [if_pos (by rfl)]
    simp only [List.getElem_toArray, List.getElem_cons_succ, List.getElem_cons_zero]
    have S0 := hHeld
    go_wp2_with fail
    refine hK.out _ _ ((cell11 (fun e => by have e : b = lb := e; have hq := HQ.out.1; rw [e, HQ.out.2.1] at hq; cases hq) S0)) (fun hHeld => ?_)
    clear hK K'
    try simp only [Act.put, List.getElem_toArray, List.getElem_cons_succ, List.getElem_cons_zero, List.setIfInBounds_toArray, List.set_cons_zero, List.set_cons_succ]
    refine wpAnyH_done (by kernel_rfl) ?_ _
    go_wp2_with fail
    go_end0
    exact ⟨rfl, FZ.out⟩
  · rw [if_pos (by rfl)]
    simp only [List.getElem_toArray, List.getElem_cons_succ, List.getElem_cons_zero]
    have S0 := hHeld
    go_wp2_with fail
    refine hK.out _ _ ((cl11 (Below.al (Below.refl _ _) _) S0)) (fun hHeld => ?_)
    clear hK K'
    try simp only [Act.put, List.getElem_toArray, List.getElem_cons_succ, List.getElem_cons_zero, List.setIfInBounds_toArray, List.set_cons_zero, List.set_cons_succ]
    refine wpAnyH_ready (rs := [0]) (by kernel_rfl) (by simp) ?_
    refine AllReadyH.cons rfl (fun K' hK => ?_) AllReadyH.nil
    rw [if_pos (by rfl)]
    simp only [List.getElem_toArray, List.getElem_cons_succ, List.getElem_cons_zero]
    have S0 := hHeld
    go_wp2_with fail
    refine hK.out _ _ (S0) (fun hHeld => ?_)
    clear hK K'
    try simp only [Act.put, List.getElem_toArray, List.getElem_cons_succ, List.getElem_cons_zero, List.setIfInBounds_toArray, List.set_cons_zero, List.set_cons_succ]
    refine wpAnyH_ready (rs := [8]) (by kernel_rfl) (by simp) ?_
    refine AllReadyH.cons rfl (fun K' hK => ?_) AllReadyH.nil
    rw [if_pos (by rfl)]
    simp only [List.getElem_toArray, List.getElem_cons_succ, List.getElem_cons_zero]
    have S0 := hHeld
    obtain ⟨g, o, cap, w3, r, hO, hg, hK⟩ := RUNH.out 62
    have Z := FIN.out w3 g o cap hO hg hK
    have FZ : Hid _ := Z
    have h3 := hK.at (j := lb) (fun hm => own_ne HQ.out.2.2 HQ.out.2.1 (by decide) (by simpa using hm)) (blk11 FX.out HQ.out.2.1)
    have S3 := Kp.cell hK S0 (fun hm => own_ne HQ.out.2.2 HQ.out.1 (by decide) (by simpa using hm))
    have c3 : w3.cell? ⟨lb, 0, none⟩ = some (.slice a9 l.length c9) := by rw [cell_of_row _ _ 0 _ _ _ h3]; rfl
    have z3 := froz11 w3 lb 0 _ _ h3
    clear Z hO hg hK
    refine wp_app_by _ _ _ rfl _ _ rfl rfl _ r ?_
    refine hK.out _ _ (S3) (fun hHeld => ?_)
    clear hK K'
    try simp only [Act.put, List.getElem_toArray, List.getElem_cons_succ, List.getElem_cons_zero, List.setIfInBounds_toArray, List.set_cons_zero, List.set_cons_succ]
    clear r
    refine wpAnyH_ready (rs := [9]) (by kernel_rfl) (by simp) ?_
    refine AllReadyH.cons rfl (fun K' hK => ?_) AllReadyH.nil
    rw [if_pos (by rfl)]
    simp only [List.getElem_toArray, List.getElem_cons_succ, List.getElem_cons_zero]
    have S0 := hHeld
    go_wp2_with fail
    refine hK.out _ _ ((cell11 (fun e => by have e : b = lb := e; have hq := HQ.out.1; rw [e, HQ.out.2.1] at hq; cases hq) S0)) (fun hHeld => ?_)
    clear hK K'
    try simp only [Act.put, List.getElem_toArray, List.getElem_cons_succ, List.getElem_cons_zero, List.setIfInBounds_toArray, List.set_cons_zero, List.set_cons_succ]
    refine wpAnyH_done (by kernel_rfl) ?_ _
    go_wp2_with fail
    go_end0
    exact ⟨rfl, FZ.out⟩
#print axioms tick1_no
end Go.Proofs.Ytjdfacjfpdfafaa
