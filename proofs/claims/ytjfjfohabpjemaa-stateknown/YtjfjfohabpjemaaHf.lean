/-
  The walks of the machine's Hear.
-/
import Derived.Test.YtjfjfohabpjemaaHe
namespace Go.Proofs.Ytjfjfohabpjemaa
open Go.RowKit

/-- Does a machine follow a command for an address now? -/
def folB (a s v : Int) : Bool := !(s == 0) && (v == 0 || v == a)
/-- What a change tells of what begins anew. -/
def rsC (c : Int) : Int := if toC c = 0 then c else 0
abbrev chC (f t r : Int) : Array Value := #[.int .u8 f, .int .u8 t, .int .u8 r]
abbrev chV (f t r : Int) : Value := .agg (chC f t r)
theorem infoC : (Try.prog.info? 43).map (·.size) = some 3 := by kernel_rfl
theorem chC_one (f t r : Int) : (chC f t r).all (·.oneCell') = true := by simp [Value.oneCell']

set_option linter.unusedSimpArgs false in
set_option maxHeartbeats 4000000 in
set_option maxRecDepth 100000 in
theorem hear_no {w : World} {p : Nat} {a s : Int} (h : w.heap[p]? = some (.cells (maC a s) 57 (0, 0))) (i n d0 d1 d2 d3 d4 d5 d6 d7 : Int) (r : Bool) (ho : Oct [d0, d1, d2, d3, d4, d5, d6, d7]) (hb : (cdB i n d0 d1 d2 d3 d4 d5 d6 d7 r && folB a s d1) = false) : Calls Try.prog 13 #[pt p, frV i n d0 d1 d2 d3 d4 d5 d6 d7 r] w fun e w' => e = .returned (.tuple #[chV 0 0 0, .bool false]) ∧ Below w.heap.size w w' := by
  cases hc : cdB i n d0 d1 d2 d3 d4 d5 d6 d7 r with
  | false =>
    have CD := fun W => commanded_no i n d0 d1 d2 d3 d4 d5 d6 d7 r ho hc W
    clear h ho hb hc
    go_enter Try.func13, Try.ntmps13
    go_wp2_with fail
    refine (CD _).mono ?_
    rintro e w1 ⟨rfl, hb⟩
    have B1 : Below w.heap.size w w1 := Below.andThen (by repeat (first | exact Below.refl _ _ | apply Below.drew | apply Below.al)) hb
    have hg : w1.heap[w.heap.size + 1]? = some (.cells (chC 0 0 0) 43 (0, 0)) := (hb.block _ (by simp)).trans (by repeat (first | exact at11 _ _ _ (by simp) | assumption | refine ext11 ?_))
    have lf := lt_of_heap hg
    clear hb CD
    go_wp2_with (refine wpList_store_row rfl 43 _ _ rfl (w.heap.size + 1) (chC 0 0 0) rfl rfl 43 _ hg infoC rfl (chC_one _ _ _) ?_)
    have hc := fun j => cell_of_row (w1.setRow (w.heap.size + 1) (chC 0 0 0)) (w.heap.size + 1) j _ _ _ (setRow_heap _ _ _ _ _ _ hg)
    refine bodyPost_ret (v := .tuple #[chV 0 0 0, .bool false]) ?_ rfl ⟨rfl, below_setRow B1 (by omega) _⟩
    simp [results, Try.results13, go_sem, hc]
  | true =>
    have CD := fun W => commanded_yes i n d0 d1 d2 d3 d4 d5 d6 d7 r ho hc W
    have FL : Hid (∀ W : World, W.heap[p]? = some (.cells (maC a s) 57 (0, 0)) → Calls Try.prog 25 #[pt p, .int .u8 d1] W fun e w' => e = .returned (.bool false) ∧ w' = W) := fun W hW => by
      have := follows_at hW d1
      rw [show (!(s == 0) && (d1 == 0 || d1 == a)) = false from by rw [hc] at hb; simpa [folB] using hb] at this
      exact this
    clear ho hb hc
    go_enter Try.func13, Try.ntmps13
    go_wp2_with fail
    refine (CD _).mono ?_
    rintro e w1 ⟨rfl, hb⟩
    have B1 : Below w.heap.size w w1 := Below.andThen (by repeat (first | exact Below.refl _ _ | apply Below.drew | apply Below.al)) hb
    have hg : w1.heap[w.heap.size + 1]? = some (.cells (chC 0 0 0) 43 (0, 0)) := (hb.block _ (by simp)).trans (by repeat (first | exact at11 _ _ _ (by simp) | assumption | refine ext11 ?_))
    have lf := lt_of_heap hg
    have hp := blk11 B1 h
    clear hb CD
    go_wp2_with fail
    refine (FL.out _ hp).mono ?_
    rintro e w2 ⟨rfl, rfl⟩
    clear hp FL
    go_wp2_with (refine wpList_store_row rfl 43 _ _ rfl (w.heap.size + 1) (chC 0 0 0) rfl rfl 43 _ hg infoC rfl (chC_one _ _ _) ?_)
    have hc := fun j => cell_of_row (w2.setRow (w.heap.size + 1) (chC 0 0 0)) (w.heap.size + 1) j _ _ _ (setRow_heap _ _ _ _ _ _ hg)
    refine bodyPost_ret (v := .tuple #[chV 0 0 0, .bool false]) ?_ rfl ⟨rfl, below_setRow B1 (by omega) _⟩
    simp [results, Try.results13, go_sem, hc]

set_option linter.unusedSimpArgs false in
set_option maxHeartbeats 4000000 in
set_option maxRecDepth 100000 in
theorem hear_yes {w : World} {p : Nat} {a s : Int} (h : w.heap[p]? = some (.cells (maC a s) 57 (0, 0))) (i n d0 d1 d2 d3 d4 d5 d6 d7 : Int) (r : Bool) (ho : Oct [d0, d1, d2, d3, d4, d5, d6, d7]) (hc : cdB i n d0 d1 d2 d3 d4 d5 d6 d7 r = true) (hf : folB a s d1 = true) : Calls Try.prog 13 #[pt p, frV i n d0 d1 d2 d3 d4 d5 d6 d7 r] w fun e w' => e = .returned (.tuple #[chV s (toC d0) (rsC d0), .bool true]) ∧ w'.heap[p]? = some (.cells (maC a (toC d0)) 57 (0, 0)) ∧ Kp [p] w w' := by
  have CD := fun W => commanded_yes i n d0 d1 d2 d3 d4 d5 d6 d7 r ho hc W
  have FL : Hid (∀ W : World, W.heap[p]? = some (.cells (maC a s) 57 (0, 0)) → Calls Try.prog 25 #[pt p, .int .u8 d1] W fun e w' => e = .returned (.bool true) ∧ w' = W) := fun W hW => by
    have := follows_at hW d1
    rw [show (!(s == 0) && (d1 == 0 || d1 == a)) = true from hf] at this
    exact this
  have ST : Hid (∀ W : World, W.heap[p]? = some (.cells (maC a s) 57 (0, 0)) → Calls Try.prog 19 #[pt p] W fun e w' => e = .returned (.int .u8 s) ∧ w' = W) := fun W hW => state_at hW
  have LD := fun W => leads_any d0 W
  have lp := lt_of_heap h
  obtain ⟨t, ht⟩ : ∃ t, Hid (t = toC d0) := ⟨_, rfl⟩
  obtain ⟨q, hq⟩ : ∃ q, Hid (q = rsC d0) := ⟨_, rfl⟩
  rw [← ht.out, ← hq.out]
  rw [← ht.out] at LD
  have hQ : Hid (q = if t = 0 then d0 else 0) := by show _ = _; rw [hq.out, ht.out]; rfl
  clear ho hc hf hq ht
  go_enter Try.func13, Try.ntmps13
  go_wp2_with fail
  refine (CD _).mono ?_
  rintro e w1 ⟨rfl, hb⟩
  have B1 : Below w.heap.size w w1 := Below.andThen (by repeat (first | exact Below.refl _ _ | apply Below.drew | apply Below.al)) hb
  have hg : w1.heap[w.heap.size + 1]? = some (.cells (chC 0 0 0) 43 (0, 0)) := (hb.block _ (by simp)).trans (by repeat (first | exact at11 _ _ _ (by simp) | assumption | refine ext11 ?_))
  have lf := lt_of_heap hg
  have hp := blk11 B1 h
  clear hb CD
  go_wp2_with fail
  refine (FL.out _ hp).mono ?_
  rintro e w2 ⟨rfl, rfl⟩
  clear FL
  go_wp2_with fail
  refine (ST.out _ hp).mono ?_
  rintro e w1 ⟨rfl, rfl⟩
  clear ST
  go_wp2_with fail
  refine (LD _).mono ?_
  rintro e w4 ⟨rfl, rfl⟩
  clear LD
  by_cases h0 : t = 0
  · obtain rfl := h0
    have eq : d0 = q := by rw [hQ.out]; simp
    subst eq
    clear hQ
    have p1 : w1.cell? ⟨p, 1, none⟩ = some (.int .u8 s) := by rw [cell_of_row w1 _ 1 _ _ _ hp]; rfl
    have z1 := froz11 w1 p 1 _ _ hp
    have l1 := lt_of_heap hp
    have gs : (w1.setCell ⟨p, 1, none⟩ (.int .u8 0)).heap[w.heap.size + 1]? = some (.cells (chC 0 0 0) 43 (0, 0)) := (Below.heap_setCell w1 ⟨p, 1, none⟩ _ _ (by show w.heap.size + 1 ≠ p; omega)).trans hg
    have ps : (w1.setCell ⟨p, 1, none⟩ (.int .u8 0)).heap[p]? = some (.cells (maC a 0) 57 (0, 0)) := heap_setCell_same _ _ _ _ _ _ hp
    have ks : Kp [p] w (w1.setCell ⟨p, 1, none⟩ (.int .u8 0)) := (Kp.of B1).set ⟨p, 1, none⟩ _ (.inl (by simp))
    have gA := ext11 (o := .cells (chC s 0 d0) 43) gs
    have pA := ext11 (o := .cells (chC s 0 d0) 43) ps
    have kA := ks.al (.cells (chC s 0 d0) 43)
    clear gs ps ks hg hp B1
    go_wp2_with (refine wpList_store_row rfl 43 _ _ rfl (w.heap.size + 1) (chC s 0 d0) rfl rfl 43 _ gA infoC rfl (chC_one _ _ _) ?_)
    have hc := fun j => cell_of_row (((w1.setCell ⟨p, 1, none⟩ (.int .u8 0)).alloc (.cells (chC s 0 d0) 43)).setRow (w.heap.size + 1) (chC s 0 d0)) (w.heap.size + 1) j _ _ _ (setRow_heap _ _ _ _ _ _ gA)
    refine bodyPost_ret (v := .tuple #[chV s 0 d0, .bool true]) ?_ rfl ⟨rfl, ?_, kA.row _ _ (.inr (by omega))⟩
    · simp [results, Try.results13, go_sem, hc]
    · exact sh11 (by omega) pA
  · have eq : q = 0 := by rw [hQ.out]; simp [h0]
    subst eq
    clear hQ
    have p1 : w1.cell? ⟨p, 1, none⟩ = some (.int .u8 s) := by rw [cell_of_row w1 _ 1 _ _ _ hp]; rfl
    have z1 := froz11 w1 p 1 _ _ hp
    have l1 := lt_of_heap hp
    have gs : (w1.setCell ⟨p, 1, none⟩ (.int .u8 t)).heap[w.heap.size + 1]? = some (.cells (chC 0 0 0) 43 (0, 0)) := (Below.heap_setCell w1 ⟨p, 1, none⟩ _ _ (by show w.heap.size + 1 ≠ p; omega)).trans hg
    have ps : (w1.setCell ⟨p, 1, none⟩ (.int .u8 t)).heap[p]? = some (.cells (maC a t) 57 (0, 0)) := heap_setCell_same _ _ _ _ _ _ hp
    have ks : Kp [p] w (w1.setCell ⟨p, 1, none⟩ (.int .u8 t)) := (Kp.of B1).set ⟨p, 1, none⟩ _ (.inl (by simp))
    have gA := ext11 (o := .cells (chC s t 0) 43) gs
    have pA := ext11 (o := .cells (chC s t 0) 43) ps
    have kA := ks.al (.cells (chC s t 0) 43)
    clear gs ps ks hg hp B1
    go_wp2_with (refine wpList_store_row rfl 43 _ _ rfl (w.heap.size + 1) (chC s t 0) rfl rfl 43 _ gA infoC rfl (chC_one _ _ _) ?_)
    have hc := fun j => cell_of_row (((w1.setCell ⟨p, 1, none⟩ (.int .u8 t)).alloc (.cells (chC s t 0) 43)).setRow (w.heap.size + 1) (chC s t 0)) (w.heap.size + 1) j _ _ _ (setRow_heap _ _ _ _ _ _ gA)
    refine bodyPost_ret (v := .tuple #[chV s t 0, .bool true]) ?_ rfl ⟨rfl, ?_, kA.row _ _ (.inr (by omega))⟩
    · simp [results, Try.results13, go_sem, hc]
    · exact sh11 (by omega) pA
#print axioms hear_yes
end Go.Proofs.Ytjfjfohabpjemaa
