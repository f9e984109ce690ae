/-
  The places of a group's entries.
-/
import Derived.Test.YtgfmcjneglnnpaaDoorHe
import Derived.Test.YtgfmcjneglnnpaaDoorHf
import Derived.Test.YtgfmcjneglnnpaaDoorDd
import Derived.Test.YtgfmcjneglnnpaaDoorTk9
namespace Go.Proofs.YtgfmcjneglnnpaaDoor
open Go.RowKit

/-- Is an entry of these rights and this group stored with a group? -/
def stI (rt gr g : Int) : Bool := (bits .and .u8 rt 8 != 0) && gr == g

set_option linter.unusedSimpArgs false in
set_option maxHeartbeats 4000000 in
set_option maxRecDepth 100000 in
theorem storedWith_any (i s : Int) (nm : ByteArray) (t rt : Int) (d : Option Addr) (ld cd : Nat) (l : Option Addr) (ll cl : Nat) (h : Option Addr) (lh ch : Nat) (tg gr : Int) (v : Option Addr) (lv cv : Nat) (g : Int) (w : World) : Calls Tryd.prog 30 #[.agg (itC i s nm t rt d ld cd l ll cl h lh ch tg gr v lv cv), .int .u8 g] w fun e w' => e = .returned (.bool (stI rt gr g)) ∧ Below w.heap.size w w' := by
  have HH : Hid (∀ W, Calls Tryd.prog 26 #[.agg (itC i s nm t rt d ld cd l ll cl h lh ch tg gr v lv cv), .int .u8 8] W fun e w' => e = .returned (.bool (bits .and .u8 rt 8 != 0)) ∧ Below W.heap.size W w') := fun W => has_any i s nm t rt d ld cd l ll cl h lh ch tg gr v lv cv 8 W
  obtain ⟨b, hb⟩ : ∃ b, Hid (b = (bits .and .u8 rt 8 != 0)) := ⟨_, rfl⟩
  have HR : Hid (stI rt gr g = (b && gr == g)) := by show _ = _; unfold stI; rw [hb.out]
  rw [← hb.out] at HH
  go_enter Tryd.func30, Tryd.ntmps30
  go_wp2_with (refine wpList_load_by rfl 65 _ rfl ⟨w.heap.size, 0, none⟩ _ rfl (loadI _ _ i s nm t rt d ld cd l ll cl h lh ch tg gr v lv cv _ (at11 _ _ _ rfl)) ?_)
  refine (HH.out _).mono ?_
  rintro e w1 ⟨rfl, hbl⟩
  have B1 : Hid (Below w.heap.size w w1) := Below.andThen (by repeat (first | exact Below.refl _ _ | apply Below.drew | apply Below.al)) hbl
  have X1 : Hid (w1.heap[w.heap.size]? = some (.cells (itC i s nm t rt d ld cd l ll cl h lh ch tg gr v lv cv) 65 (0, 0))) := blk11 hbl (at11 _ _ _ rfl)
  have c9 : w1.cell? ⟨w.heap.size, 9, none⟩ = some (.int .u8 gr) := by rw [cell_of_row _ _ 9 _ _ _ X1.out]; rfl
  clear hbl HH
  cases b with
  | false =>
    go_wp2_with fail
    go_ret
    exact ⟨by rw [HR.out]; rfl, B1.out⟩
  | true =>
    go_wp2_with fail
    go_ret
    exact ⟨by rw [HR.out]; rfl, B1.out⟩

set_option linter.unusedSimpArgs false in
set_option maxHeartbeats 4000000 in
set_option maxRecDepth 100000 in
theorem stored1_any (p m q1 q2 : Nat) (cg g : Int) (lst : Mp) (i s : Int) (nm : ByteArray) (t rt : Int) (d : Option Addr) (ld cd : Nat) (l : Option Addr) (ll cl : Nat) (h : Option Addr) (lh ch : Nat) (tg gr : Int) (v : Option Addr) (lv cv : Nat) (w : World) (T1 T2 : TypeId) (h1 : w.heap[q1]? = some (.cells #[.pointer (some ⟨p, 0, none⟩)] T1 (0, 0))) (h2 : w.heap[q2]? = some (.cells #[.int .u8 g] T2 (0, 0))) (hp : w.heap[p]? = some (.cells #[.map (some m), .int .i64 cg] 80 (0, 0))) (hm : IsM w m lst) (hl : lookP lst i s = some (.agg (itC i s nm t rt d ld cd l ll cl h lh ch tg gr v lv cv))) :
    Calls Tryd.prog 49 #[plV i s, .pointer (some ⟨q1, 0, none⟩), .pointer (some ⟨q2, 0, none⟩)] w fun e w' => e = .returned (.bool (!stI rt gr g)) ∧ Below w.heap.size w w' := by
  have H1 : Hid (w.heap[q1]? = some (.cells #[.pointer (some ⟨p, 0, none⟩)] T1 (0, 0))) := h1
  have H2 : Hid (w.heap[q2]? = some (.cells #[.int .u8 g] T2 (0, 0))) := h2
  have HP : Hid (w.heap[p]? = some (.cells #[.map (some m), .int .i64 cg] 80 (0, 0))) := hp
  have HM : Hid (IsM w m lst) := hm
  have HL : Hid (lookP lst i s = some (.agg (itC i s nm t rt d ld cd l ll cl h lh ch tg gr v lv cv))) := hl
  have l1 := lt_of_heap h1
  have l2 := lt_of_heap h2
  have lp := lt_of_heap hp
  have lm := hm.lt
  clear h1 h2 hp hm hl
  go_enter Tryd.func49, Tryd.ntmps49
  go_wp2_with fail
  refine wp_region_held_drew (S := fun x => Below w.heap.size w x ∧ x.heap[q1]? = some (.cells #[.pointer (some ⟨p, 0, none⟩)] T1 (0, 0)) ∧ x.heap[q2]? = some (.cells #[.int .u8 g] T2 (0, 0)) ∧ x.heap[p]? = some (.cells #[.map (some m), .int .i64 cg] 80 (0, 0)) ∧ IsM x m lst ∧ x.heap[w.heap.size]? = some (.cells #[.int .u16 i, .int .u8 s] 24 (0, 0))) (by kernel_rfl) (⟨Below.drew (by repeat (first | exact Below.refl _ _ | apply Below.drew | apply Below.al)), ext11 H1.out, ext11 H2.out, ext11 HP.out, HM.out.next (by repeat (first | exact Below.refl _ _ | apply Below.drew | apply Below.al)), at11 _ _ _ rfl⟩) (fun hHeld => ?_)
  refine tk 0 (.pointer (some ⟨p, 0, none⟩)) rfl (.inl ⟨by rfl, ?_⟩) ?_
  · intro w9 hSw
    try dsimp only at hSw
    have c0 : w9.cell? ⟨q1, 0, none⟩ = some (.pointer (some ⟨p, 0, none⟩)) := by rw [cell_of_row _ _ 0 _ _ _ hSw.2.1]; rfl
    go_simp
    all_goals try assumption
  try simp only [Act.put, gA, gS, gZ, sA, sZ, sS]
  refine tk 1 (.pointer (some ⟨p, 0, none⟩)) rfl (.inl ⟨by rfl, ?_⟩) ?_
  · intro w9 hSw
    try dsimp only at hSw
    go_simp
    all_goals try decide
    all_goals try assumption
    all_goals try omega
  try simp only [Act.put, gA, gS, gZ, sA, sZ, sS]
  refine tk 2 (.pointer (some ⟨p, 0, none⟩)) rfl (.inl ⟨by rfl, ?_⟩) ?_
  · intro w9 hSw
    try dsimp only at hSw
    go_simp
    all_goals try decide
    all_goals try assumption
    all_goals try omega
  try simp only [Act.put, gA, gS, gZ, sA, sZ, sS]
  refine tk 3 (.map (some m)) rfl (.inl ⟨by rfl, ?_⟩) ?_
  · intro w9 hSw
    try dsimp only at hSw
    have c0 : w9.cell? ⟨p, 0, none⟩ = some (.map (some m)) := by rw [cell_of_row _ _ 0 _ _ _ hSw.2.2.2.1]; rfl
    go_simp
    all_goals try assumption
  try simp only [Act.put, gA, gS, gZ, sA, sZ, sS]
  refine tk 4 (plV i s) rfl (.inl ⟨by rfl, ?_⟩) ?_
  · intro w9 hSw
    try dsimp only at hSw
    exact ex_load11 24 (.tmp 3) rfl _ _ rfl (load_part 24 2 sizeP aggP _ (w.heap.size) 0 [.int .u16 i, .int .u8 s] _ hSw.2.2.2.2.2 (by simp))
  try simp only [Act.put, gA, gS, gZ, sA, sZ, sS]
  refine tk 5 (.agg (itC i s nm t rt d ld cd l ll cl h lh ch tg gr v lv cv)) rfl (.inl ⟨by rfl, ?_⟩) ?_
  · intro w9 hSw
    try dsimp only at hSw
    exact ex_look 78 (.tmp 8) (.tmp 9) false rfl _ _ _ rfl rfl (look_one _ m lst i s _ hSw.2.2.2.2.1 HL.out)
  try simp only [Act.put, gA, gS, gZ, sA, sZ, sS]
  refine tk 6 (.int .u8 g) rfl (.inl ⟨by rfl, ?_⟩) ?_
  · intro w9 hSw
    try dsimp only at hSw
    have c0 : w9.cell? ⟨q2, 0, none⟩ = some (.int .u8 g) := by rw [cell_of_row _ _ 0 _ _ _ hSw.2.2.1]; rfl
    go_simp
    all_goals try assumption
  try simp only [Act.put, gA, gS, gZ, sA, sZ, sS]
  refine wpAnyH_ready (rs := [7]) (by kernel_rfl) (by simp) ?_
  refine AllReadyH.cons rfl (fun K' hK => ?_) AllReadyH.nil
  rw [if_pos (by rfl)]
  simp only [gA, gS, gZ]
  go_wp2_with fail
  refine (storedWith_any i s nm t rt d ld cd l ll cl h lh ch tg gr v lv cv g _).mono ?_
  rintro e z ⟨rfl, hb⟩
  have HB : Hid (Below w.heap.size w z) := Below.andThen hHeld.1 hb
  obtain ⟨_, k1, k2, k3, k4, k5⟩ := hHeld
  have X1 := blk11 hb k1
  have X2 := blk11 hb k2
  have X3 := blk11 hb k3
  have X4 := k4.next hb
  have X5 := blk11 hb k5
  clear k1 k2 k3 k4 k5 hb
  try go_wp2_with fail
  refine hK.out _ _ (⟨HB.out, X1, X2, X3, X4, X5⟩) (fun hHeld => ?_)
  clear hK K'
  try simp only [Act.put, gA, gS, gZ, sA, sZ, sS]
  refine tk 8 (.bool (!stI rt gr g)) rfl (.inl ⟨by rfl, ?_⟩) ?_
  · intro w9 hSw
    try dsimp only at hSw
    go_simp
    all_goals try decide
    all_goals try assumption
    all_goals try omega
  try simp only [Act.put, gA, gS, gZ, sA, sZ, sS]
  refine tk 9 (.bool (!stI rt gr g)) rfl (.inl ⟨by rfl, ?_⟩) ?_
  · intro w9 hSw
    try dsimp only at hSw
    go_simp
    all_goals try decide
    all_goals try assumption
    all_goals try omega
  try simp only [Act.put, gA, gS, gZ, sA, sZ, sS]
  refine wpAnyH_done (by kernel_rfl) ?_ _
  go_wp2_with fail
  go_ret
  exact ⟨rfl, hHeld.1⟩
#print axioms stored1_any

set_option linter.unusedSimpArgs false in
set_option maxHeartbeats 4000000 in
set_option maxRecDepth 100000 in
theorem idx_none (pa : Option Addr) (cap : Nat) (fv : Value) (w : World) : Calls Tryd.prog 65 #[.slice pa 0 cap, fv] w fun e w' => e = .returned (.int .i64 (-1)) ∧ w' = w := by
  go_enter Tryd.func65, Tryd.ntmps65
  go_wp2_with fail
  go_loopw [8] (fun u vr => u = .int .i64 0 ∧ vr = w) (fun _ _ => 0)
  case atStart => exact ⟨rfl, rfl⟩
  case round =>
    obtain ⟨rfl, rfl⟩ := hrel
    go_wp2_with fail
    go_ret
    exact ⟨rfl, rfl⟩

set_option linter.unusedSimpArgs false in
set_option maxHeartbeats 4000000 in
set_option maxRecDepth 100000 in
theorem del_none (pa : Option Addr) (cap : Nat) (fv : Value) (w : World) : Calls Tryd.prog 48 #[.slice pa 0 cap, fv] w fun e w' => e = .returned (.slice pa 0 cap) ∧ w' = w := by
  have IX : Hid (∀ W, Calls Tryd.prog 65 #[.slice pa 0 cap, fv] W fun e w' => e = .returned (.int .i64 (-1)) ∧ w' = W) := fun W => idx_none pa cap fv W
  go_enter Tryd.func48, Tryd.ntmps48
  go_wp2_with fail
  refine (IX.out _).mono ?_
  rintro e w1 ⟨rfl, rfl⟩
  go_wp2_with fail
  go_ret
  exact ⟨rfl, rfl⟩

/-- Is what stands at a place stored with a group? -/
def stB (g : Int) : Option Value → Bool
  | some (.agg a) => match (a[4]? : Option Value), (a[9]? : Option Value) with
    | some (Value.int _ rt), some (Value.int _ gr) => stI rt gr g
    | _, _ => false
  | _ => false
/-- The places of a group's entries, in their order. -/
def sto (lst : Mp) (g : Int) : List Pq := (srt (keysOf lst)).filter fun x => stB g (lookP lst x.i x.s)
/-- All that stands in a map is entries. -/
def Items (lst : Mp) : Prop := ∀ i s u, lookP lst i s = some u → ∃ nm t rt d ld cd l ll cl h lh ch tg gr v lv cv, u = .agg (itC i s nm t rt d ld cd l ll cl h lh ch tg gr v lv cv)
theorem look_mem {lst : Mp} {x : Pq} (h : x ∈ keysOf lst) : ∃ u, lookP lst x.i x.s = some u := by
  unfold keysOf at h
  induction lst with
  | nil => simp at h
  | cons y l ih =>
    simp only [lookP]
    split
    · exact ⟨_, rfl⟩
    · rename_i hc
      rw [List.map_cons] at h
      rcases List.mem_cons.1 h with rfl | h
      · simp at hc
      · exact ih h

set_option linter.unusedSimpArgs false in
set_option maxHeartbeats 4000000 in
set_option maxRecDepth 100000 in
theorem stored_any (p m : Nat) (cg g : Int) (lst : Mp) (w : World) (hp : w.heap[p]? = some (.cells #[.map (some m), .int .i64 cg] 80 (0, 0))) (hm : IsM w m lst) (hi : Items lst) (hl : lst.length ≤ 100000) :
    Calls Tryd.prog 33 #[.pointer (some ⟨p, 0, none⟩), .int .u8 g] w fun e w' => ∃ v, e = .returned v ∧ IsQ w' w.heap.size v (sto lst g) ∧ Below w.heap.size w w' := by
  have lp := lt_of_heap hp
  have lm := hm.lt
  have HPL : Hid (∀ W, Below w.heap.size w W → Calls Tryd.prog 36 #[.pointer (some ⟨p, 0, none⟩)] W fun e w' => ∃ v, e = .returned v ∧ IsQ w' W.heap.size v (srt (keysOf lst)) ∧ Below W.heap.size W w') := fun W hb => places_any p m cg lst W (blk11 hb hp) (hm.next hb) (by omega)
  have HC : Hid (∀ (z : World) (q1 q2 : Nat) (T1 T2 : TypeId), z.heap[p]? = w.heap[p]? → z.heap[m]? = w.heap[m]? → z.heap[q1]? = some (.cells #[.pointer (some ⟨p, 0, none⟩)] T1 (0, 0)) → z.heap[q2]? = some (.cells #[.int .u8 g] T2 (0, 0)) → ∀ x ∈ srt (keysOf lst), Calls Tryd.prog 49 #[.agg x.A, .pointer (some ⟨q1, 0, none⟩), .pointer (some ⟨q2, 0, none⟩)] z fun e w' => e = .returned (.bool (decide ((stB g (lookP lst x.i x.s)) = false))) ∧ Below z.heap.size z w') := by
    intro z q1 q2 T1 T2 e1 e2 e3 e4 x hx
    obtain ⟨u, hu⟩ := look_mem ((srt_perm _).mem_iff.1 hx)
    obtain ⟨nm, t, rt, d, ld, cd, l, ll, cl, h, lh, ch, tg, gr, v, lv, cv, rfl⟩ := hi _ _ _ hu
    have := stored1_any p m q1 q2 cg g lst x.i x.s nm t rt d ld cd l ll cl h lh ch tg gr v lv cv z T1 T2 e3 e4 (e1.trans hp) (by obtain ⟨es, c, hb, r⟩ := hm; exact ⟨es, c, e2.trans hb, r⟩) hu
    rw [hu]
    refine this.mono ?_
    rintro e w' ⟨rfl, hb⟩
    refine ⟨?_, hb⟩
    show Ending.returned (Value.bool (!stI rt gr g)) = Ending.returned (Value.bool (decide (stI rt gr g = false)))
    cases stI rt gr g <;> rfl
  have LN : Hid ((srt (keysOf lst)).length ≤ 100000) := by
    show _ ≤ _
    rw [(srt_perm _).length_eq]
    unfold keysOf
    rw [List.length_map]
    exact hl
  have HS : Hid (sto lst g = (srt (keysOf lst)).filter fun x => stB g (lookP lst x.i x.s)) := rfl
  clear hp hm hi hl
  go_enter Tryd.func33, Tryd.ntmps33
  go_wp2_with fail
  refine (HPL.out _ (by repeat (first | exact Below.refl _ _ | apply Below.drew | apply Below.al))).mono ?_
  rintro e w1 ⟨v, rfl, hq, hb⟩
  have B1 : Hid (Below w.heap.size w w1) := Below.andThen (by repeat (first | exact Below.refl _ _ | apply Below.drew | apply Below.al)) hb
  have X1 : Hid (w1.heap[w.heap.size]? = some (.cells #[.pointer (some ⟨p, 0, none⟩)] 26 (0, 0))) := blk11 hb (ext11 (at11 _ _ _ rfl))
  have X2 : Hid (w1.heap[w.heap.size + 1]? = some (.cells #[.int .u8 g] 5 (0, 0))) := blk11 hb (at11 _ _ _ (by simp))
  rw [show ((w.alloc (.cells #[.pointer (some ⟨p, 0, none⟩)] 26)).alloc (.cells #[.int .u8 g] 5)).heap.size = w.heap.size + 2 from by simp] at hq
  have HQ : Hid (IsQ w1 (w.heap.size + 2) v (srt (keysOf lst))) := hq
  clear hb hq HPL
  have HD : Hid (Calls Tryd.prog 48 #[v, .func (.func 49) #[] #[.pointer (some ⟨w.heap.size, 0, none⟩), .pointer (some ⟨w.heap.size + 1, 0, none⟩)]] w1 fun e w' => ∃ v', e = .returned v' ∧ IsQ w' (w.heap.size + 2) v' (sto lst g) ∧ Below (w.heap.size + 2) w1 w') := by
    rcases HQ.out.form with ⟨h1, h2⟩ | ⟨gb, cap, cur, hv, hg, _⟩
    · rw [h1]
      refine (del_none none 0 _ w1).mono ?_
      rintro e w' ⟨rfl, rfl⟩
      exact ⟨_, rfl, by rw [HS.out, h2]; exact isQ_nil _ _, Below.refl _ _⟩
    · have hq := HQ.out
      rw [hv] at hq ⊢
      refine (qdel_any (nd := fun x => stB g (lookP lst x.i x.s)) hq rfl LN.out (.pointer (some ⟨w.heap.size, 0, none⟩)) (.pointer (some ⟨w.heap.size + 1, 0, none⟩)) (fun z hz x hx => ?_)).mono ?_
      · refine HC.out z w.heap.size (w.heap.size + 1) _ _ ?_ ?_ (hz.at (by simp; omega) X1.out) (hz.at (by simp; omega) X2.out) x hx
        · rw [hz.block p (by have := B1.out.size; omega) (by simp; omega)]; exact B1.out.block p lp
        · rw [hz.block m (by have := B1.out.size; omega) (by simp; omega)]; exact B1.out.block m lm
      · rintro e w' ⟨rfl, r1, r2⟩
        exact ⟨_, rfl, by rw [HS.out]; exact r1, r2.os, r2.tape, r2.output, r2.size, fun k hk => r2.block k (by have := lt_of_heap X2.out; omega) (by simp; omega)⟩
  go_wp2_with fail
  refine HD.out.mono ?_
  rintro e w2 ⟨v', rfl, hq, hb⟩
  have R : Hid (IsQ w2 w.heap.size v' (sto lst g) ∧ Below w.heap.size w w2) := ⟨hq.mono (by omega), B1.out.trans (hb.mono (by omega))⟩
  clear hq hb
  go_wp2_with fail
  go_ret
  exact ⟨_, rfl, R.out⟩
#print axioms stored_any
end Go.Proofs.YtgfmcjneglnnpaaDoor
