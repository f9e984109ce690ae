/-
  Places sorted; the places of a dictionary.
  The places of a group's entries.
  Rows of bytes of one's own; a record put behind them.
  Save.
  Get; the example's entries and Maps.
  A dictionary as a whole: its places, its items, their groups; Write, put, Get and Save of it.
-/
import Derived.Test.YtpjmebaipnpegaaDoorHd
import Derived.Test.YtpjmebaipnpegaaDoorShelfQ
import Derived.Test.YtpjmebaipnpegaaDoorHe
import Derived.Test.YtpjmebaipnpegaaDoorDg
import Derived.Test.YtpjmebaipnpegaaDoorTk9
import Derived.Deep.AppendLies
import Derived.Test.YtpjmebaipnpegaaDoorGa
namespace Go.Proofs.YtpjmebaipnpegaaDoor
open Go.RowKit Go.Sort

theorem sort_any (W : World) (v : Value) (l : List Pq) (b : Nat) (h : IsQ W b v l) (hb : b ≤ W.heap.size) (hl : l.length ≤ 1000000) :
    Calls Tryd.prog 48 #[v, .func (.func 39) #[] #[]] W fun e w' => e = .returned (.tuple #[]) ∧ IsQ w' b v (srt l) ∧ Below b W w' := by
  rcases Nat.eq_zero_or_pos l.length with hz | hz
  · obtain rfl := List.eq_nil_of_length_eq_zero hz
    have e0 : ∃ p cap, v = .slice p 0 cap := by
      rcases h.form with ⟨h1, _⟩ | ⟨g, cap, _, hv, _⟩
      · exact ⟨_, _, h1⟩
      · exact ⟨_, _, hv⟩
    obtain ⟨p, cap, rfl⟩ := e0
    refine (AnyF.slices_SortFunc_none Tryd.sortPl p cap (.func (.func 39) #[] #[]) W).mono ?_
    rintro e w' ⟨rfl, rfl⟩
    exact ⟨rfl, by rw [show srt [] = [] from by simp [srt]]; exact h, Below.refl _ _⟩
  · obtain ⟨g, cap, rfl⟩ := h.isSome (fun e => by rw [e] at hz; simp at hz)
    have eg : ∀ args w, (callFunc 39 args).run Tryd.prog w = .ok (.enter 39 args) w := enters_of Tryd.func39 (by kernel_rfl) rfl
    have hc : CmpLays Tryd.prog 39 #[] Pq.L 2 cfP g 0 l.toArray.size W := fun m os dk _ x y => (cmpPl x.i x.s y.i y.s _).mono fun e w' hh => hh
    have hg := (h.lt g rfl)
    have hcon := AnyQ.slices_SortFunc_total Tryd.sortPl 2 (fun w => aggP w) (fun w => by kernel_rfl) Pq.L Pq.L_len (fun x u hu => by simp [Pq.L] at hu; rcases hu with rfl | rfl <;> rfl) cfP swoP 39 #[] g 0 cap l.toArray W eg hc h.holds hg.2 (by simp; omega) totP
    rw [List.size_toArray] at hcon
    refine hcon.mono ?_
    rintro e w' ⟨rfl, n, os, rfl⟩
    obtain ⟨q1, q2⟩ := h.sorted (l' := srt l) (srt_perm l).length_eq n os
    rw [(srt_perm l).length_eq] at q1
    exact ⟨rfl, q1, q2.os, q2.tape, q2.output, q2.size, fun k hk => q2.block k (by omega) (by simp; omega)⟩

theorem places_any (p m : Nat) (cg : Int) (lst : Mp) (w : World) (hp : w.heap[p]? = some (.cells #[.map (some m), .int .i64 cg] 50 (0, 0))) (hm : IsM w m lst) (hl : lst.length ≤ 1000000) :
    Calls Tryd.prog 36 #[.pointer (some ⟨p, 0, none⟩)] w fun e w' => ∃ v, e = .returned v ∧ IsQ w' w.heap.size v (srt (keysOf lst)) ∧ Below w.heap.size w w' :=
  places_of p m cg lst w hp hm hl fun W v l b => sort_any W v l b
#print axioms places_any
end Go.Proofs.YtpjmebaipnpegaaDoor
namespace Go.Proofs.YtpjmebaipnpegaaDoor
open Go.RowKit

/-- Is an entry of these rights and this group stored with a group? -/
def stI (rt gr g : Int) : Bool := (bits .and .u8 rt 8 != 0) && gr == g

set_option linter.unusedSimpArgs false in
set_option maxHeartbeats 4000000 in
set_option maxRecDepth 100000 in
theorem storedWith_any (i s : Int) (nm : ByteArray) (t rt : Int) (d : Option Addr) (ld cd : Nat) (l : Option Addr) (ll cl : Nat) (h : Option Addr) (lh ch : Nat) (tg gr : Int) (v : Option Addr) (lv cv : Nat) (g : Int) (w : World) : Calls Tryd.prog 27 #[.agg (itC i s nm t rt d ld cd l ll cl h lh ch tg gr v lv cv), .int .u8 g] w fun e w' => e = .returned (.bool (stI rt gr g)) ∧ Below w.heap.size w w' := by
  have HH : Hid (∀ W, Calls Tryd.prog 34 #[.agg (itC i s nm t rt d ld cd l ll cl h lh ch tg gr v lv cv), .int .u8 8] W fun e w' => e = .returned (.bool (bits .and .u8 rt 8 != 0)) ∧ Below W.heap.size W w') := fun W => has_any i s nm t rt d ld cd l ll cl h lh ch tg gr v lv cv 8 W
  obtain ⟨b, hb⟩ : ∃ b, Hid (b = (bits .and .u8 rt 8 != 0)) := ⟨_, rfl⟩
  have HR : Hid (stI rt gr g = (b && gr == g)) := by show _ = _; unfold stI; rw [hb.out]
  rw [← hb.out] at HH
  go_enter Tryd.func27, Tryd.ntmps27
  go_wp2_with (refine wpList_load_by rfl 54 _ rfl ⟨w.heap.size, 0, none⟩ _ rfl (loadI _ _ i s nm t rt d ld cd l ll cl h lh ch tg gr v lv cv _ (at11 _ _ _ rfl)) ?_)
  refine (HH.out _).mono ?_
  rintro e w1 ⟨rfl, hbl⟩
  have B1 : Hid (Below w.heap.size w w1) := Below.andThen (by repeat (first | exact Below.refl _ _ | apply Below.drew | apply Below.al)) hbl
  have X1 : Hid (w1.heap[w.heap.size]? = some (.cells (itC i s nm t rt d ld cd l ll cl h lh ch tg gr v lv cv) 54 (0, 0))) := blk11 hbl (at11 _ _ _ rfl)
  have c9 : w1.cell? ⟨w.heap.size, 9, none⟩ = some (.int .u8 gr) := by rw [cell_of_row _ _ 9 _ _ _ X1.out]; rfl
  clear hbl HH
  cases b with
  | false =>
    go_wp2_with fail
    go_ret
    exact ⟨by rw [HR.out]; rfl, B1.out⟩
  | true =>
    go_wp2_with fail
    go_ret
    exact ⟨by rw [HR.out]; rfl, B1.out⟩

set_option linter.unusedSimpArgs false in
set_option maxHeartbeats 4000000 in
set_option maxRecDepth 100000 in
theorem stored1_any (p m q1 q2 : Nat) (cg g : Int) (lst : Mp) (i s : Int) (nm : ByteArray) (t rt : Int) (d : Option Addr) (ld cd : Nat) (l : Option Addr) (ll cl : Nat) (h : Option Addr) (lh ch : Nat) (tg gr : Int) (v : Option Addr) (lv cv : Nat) (w : World) (T1 T2 : TypeId) (h1 : w.heap[q1]? = some (.cells #[.pointer (some ⟨p, 0, none⟩)] T1 (0, 0))) (h2 : w.heap[q2]? = some (.cells #[.int .u8 g] T2 (0, 0))) (hp : w.heap[p]? = some (.cells #[.map (some m), .int .i64 cg] 50 (0, 0))) (hm : IsM w m lst) (hl : lookP lst i s = some (.agg (itC i s nm t rt d ld cd l ll cl h lh ch tg gr v lv cv))) :
    Calls Tryd.prog 37 #[plV i s, .pointer (some ⟨q1, 0, none⟩), .pointer (some ⟨q2, 0, none⟩)] w fun e w' => e = .returned (.bool (!stI rt gr g)) ∧ Below w.heap.size w w' := by
  have H1 : Hid (w.heap[q1]? = some (.cells #[.pointer (some ⟨p, 0, none⟩)] T1 (0, 0))) := h1
  have H2 : Hid (w.heap[q2]? = some (.cells #[.int .u8 g] T2 (0, 0))) := h2
  have HP : Hid (w.heap[p]? = some (.cells #[.map (some m), .int .i64 cg] 50 (0, 0))) := hp
  have HM : Hid (IsM w m lst) := hm
  have HL : Hid (lookP lst i s = some (.agg (itC i s nm t rt d ld cd l ll cl h lh ch tg gr v lv cv))) := hl
  have l1 := lt_of_heap h1
  have l2 := lt_of_heap h2
  have lp := lt_of_heap hp
  have lm := hm.lt
  clear h1 h2 hp hm hl
  go_enter Tryd.func37, Tryd.ntmps37
  go_wp2_with fail
  refine wp_region_held_drew (S := fun x => Below w.heap.size w x ∧ x.heap[q1]? = some (.cells #[.pointer (some ⟨p, 0, none⟩)] T1 (0, 0)) ∧ x.heap[q2]? = some (.cells #[.int .u8 g] T2 (0, 0)) ∧ x.heap[p]? = some (.cells #[.map (some m), .int .i64 cg] 50 (0, 0)) ∧ IsM x m lst ∧ x.heap[w.heap.size]? = some (.cells #[.int .u16 i, .int .u8 s] 33 (0, 0))) (by kernel_rfl) (⟨Below.drew (by repeat (first | exact Below.refl _ _ | apply Below.drew | apply Below.al)), ext11 H1.out, ext11 H2.out, ext11 HP.out, HM.out.next (by repeat (first | exact Below.refl _ _ | apply Below.drew | apply Below.al)), at11 _ _ _ rfl⟩) (fun hHeld => ?_)
  refine tk 0 (.pointer (some ⟨p, 0, none⟩)) rfl (.inl ⟨by rfl, ?_⟩) ?_
  · intro w9 hSw
    try dsimp only at hSw
    have c0 : w9.cell? ⟨q1, 0, none⟩ = some (.pointer (some ⟨p, 0, none⟩)) := by rw [cell_of_row _ _ 0 _ _ _ hSw.2.1]; rfl
    go_simp
    all_goals try assumption
  try simp only [Act.put, gA, gS, gZ, sA, sZ, sS]
  refine tk 1 (.pointer (some ⟨p, 0, none⟩)) rfl (.inl ⟨by rfl, ?_⟩) ?_
  · intro w9 hSw
    try dsimp only at hSw
    go_simp
    all_goals try decide
    all_goals try assumption
    all_goals try omega
  try simp only [Act.put, gA, gS, gZ, sA, sZ, sS]
  refine tk 2 (.pointer (some ⟨p, 0, none⟩)) rfl (.inl ⟨by rfl, ?_⟩) ?_
  · intro w9 hSw
    try dsimp only at hSw
    go_simp
    all_goals try decide
    all_goals try assumption
    all_goals try omega
  try simp only [Act.put, gA, gS, gZ, sA, sZ, sS]
  refine tk 3 (.map (some m)) rfl (.inl ⟨by rfl, ?_⟩) ?_
  · intro w9 hSw
    try dsimp only at hSw
    have c0 : w9.cell? ⟨p, 0, none⟩ = some (.map (some m)) := by rw [cell_of_row _ _ 0 _ _ _ hSw.2.2.2.1]; rfl
    go_simp
    all_goals try assumption
  try simp only [Act.put, gA, gS, gZ, sA, sZ, sS]
  refine tk 4 (plV i s) rfl (.inl ⟨by rfl, ?_⟩) ?_
  · intro w9 hSw
    try dsimp only at hSw
    exact ex_load11 33 (.tmp 3) rfl _ _ rfl (load_part 33 2 sizeP aggP _ (w.heap.size) 0 [.int .u16 i, .int .u8 s] _ hSw.2.2.2.2.2 (by simp))
  try simp only [Act.put, gA, gS, gZ, sA, sZ, sS]
  refine tk 5 (.agg (itC i s nm t rt d ld cd l ll cl h lh ch tg gr v lv cv)) rfl (.inl ⟨by rfl, ?_⟩) ?_
  · intro w9 hSw
    try dsimp only at hSw
    exact ex_look 48 (.tmp 8) (.tmp 9) false rfl _ _ _ rfl rfl (look_one _ m lst i s _ hSw.2.2.2.2.1 HL.out)
  try simp only [Act.put, gA, gS, gZ, sA, sZ, sS]
  refine tk 6 (.int .u8 g) rfl (.inl ⟨by rfl, ?_⟩) ?_
  · intro w9 hSw
    try dsimp only at hSw
    have c0 : w9.cell? ⟨q2, 0, none⟩ = some (.int .u8 g) := by rw [cell_of_row _ _ 0 _ _ _ hSw.2.2.1]; rfl
    go_simp
    all_goals try assumption
  try simp only [Act.put, gA, gS, gZ, sA, sZ, sS]
  refine wpAnyH_ready (rs := [7]) (by kernel_rfl) (by simp) ?_
  refine AllReadyH.cons rfl (fun K' hK => ?_) AllReadyH.nil
  rw [if_pos (by rfl)]
  simp only [gA, gS, gZ]
  go_wp2_with fail
  refine (storedWith_any i s nm t rt d ld cd l ll cl h lh ch tg gr v lv cv g _).mono ?_
  rintro e z ⟨rfl, hb⟩
  have HB : Hid (Below w.heap.size w z) := Below.andThen hHeld.1 hb
  obtain ⟨_, k1, k2, k3, k4, k5⟩ := hHeld
  have X1 := blk11 hb k1
  have X2 := blk11 hb k2
  have X3 := blk11 hb k3
  have X4 := k4.next hb
  have X5 := blk11 hb k5
  clear k1 k2 k3 k4 k5 hb
  try go_wp2_with fail
  refine hK.out _ _ (⟨HB.out, X1, X2, X3, X4, X5⟩) (fun hHeld => ?_)
  clear hK K'
  try simp only [Act.put, gA, gS, gZ, sA, sZ, sS]
  refine tk 8 (.bool (!stI rt gr g)) rfl (.inl ⟨by rfl, ?_⟩) ?_
  · intro w9 hSw
    try dsimp only at hSw
    go_simp
    all_goals try decide
    all_goals try assumption
    all_goals try omega
  try simp only [Act.put, gA, gS, gZ, sA, sZ, sS]
  refine tk 9 (.bool (!stI rt gr g)) rfl (.inl ⟨by rfl, ?_⟩) ?_
  · intro w9 hSw
    try dsimp only at hSw
    go_simp
    all_goals try decide
    all_goals try assumption
    all_goals try omega
  try simp only [Act.put, gA, gS, gZ, sA, sZ, sS]
  refine wpAnyH_done (by kernel_rfl) ?_ _
  go_wp2_with fail
  go_ret
  exact ⟨rfl, hHeld.1⟩
#print axioms stored1_any

set_option linter.unusedSimpArgs false in
set_option maxHeartbeats 4000000 in
set_option maxRecDepth 100000 in
theorem idx_none (pa : Option Addr) (cap : Nat) (fv : Value) (w : World) : Calls Tryd.prog 47 #[.slice pa 0 cap, fv] w fun e w' => e = .returned (.int .i64 (-1)) ∧ w' = w := by
  go_enter Tryd.func47, Tryd.ntmps47
  go_wp2_with fail
  go_loopw [8] (fun u vr => u = .int .i64 0 ∧ vr = w) (fun _ _ => 0)
  case atStart => exact ⟨rfl, rfl⟩
  case round =>
    obtain ⟨rfl, rfl⟩ := hrel
    go_wp2_with fail
    go_ret
    exact ⟨rfl, rfl⟩

set_option linter.unusedSimpArgs false in
set_option maxHeartbeats 4000000 in
set_option maxRecDepth 100000 in
theorem del_none (pa : Option Addr) (cap : Nat) (fv : Value) (w : World) : Calls Tryd.prog 35 #[.slice pa 0 cap, fv] w fun e w' => e = .returned (.slice pa 0 cap) ∧ w' = w := by
  have IX : Hid (∀ W, Calls Tryd.prog 47 #[.slice pa 0 cap, fv] W fun e w' => e = .returned (.int .i64 (-1)) ∧ w' = W) := fun W => idx_none pa cap fv W
  go_enter Tryd.func35, Tryd.ntmps35
  go_wp2_with fail
  refine (IX.out _).mono ?_
  rintro e w1 ⟨rfl, rfl⟩
  go_wp2_with fail
  go_ret
  exact ⟨rfl, rfl⟩

/-- Is what stands at a place stored with a group? -/
def stB (g : Int) : Option Value → Bool
  | some (.agg a) => match (a[4]? : Option Value), (a[9]? : Option Value) with
    | some (Value.int _ rt), some (Value.int _ gr) => stI rt gr g
    | _, _ => false
  | _ => false
/-- The places of a group's entries, in their order. -/
def sto (lst : Mp) (g : Int) : List Pq := (srt (keysOf lst)).filter fun x => stB g (lookP lst x.i x.s)
/-- All that stands in a map is entries. -/
def Items (lst : Mp) : Prop := ∀ i s u, lookP lst i s = some u → ∃ nm t rt d ld cd l ll cl h lh ch tg gr v lv cv, u = .agg (itC i s nm t rt d ld cd l ll cl h lh ch tg gr v lv cv)
theorem look_mem {lst : Mp} {x : Pq} (h : x ∈ keysOf lst) : ∃ u, lookP lst x.i x.s = some u := by
  unfold keysOf at h
  induction lst with
  | nil => simp at h
  | cons y l ih =>
    simp only [lookP]
    split
    · exact ⟨_, rfl⟩
    · rename_i hc
      rw [List.map_cons] at h
      rcases List.mem_cons.1 h with rfl | h
      · simp at hc
      · exact ih h

set_option linter.unusedSimpArgs false in
set_option maxHeartbeats 4000000 in
set_option maxRecDepth 100000 in
theorem stored_any (p m : Nat) (cg g : Int) (lst : Mp) (w : World) (hp : w.heap[p]? = some (.cells #[.map (some m), .int .i64 cg] 50 (0, 0))) (hm : IsM w m lst) (hi : Items lst) (hl : lst.length ≤ 100000) :
    Calls Tryd.prog 22 #[.pointer (some ⟨p, 0, none⟩), .int .u8 g] w fun e w' => ∃ v, e = .returned v ∧ IsQ w' w.heap.size v (sto lst g) ∧ Below w.heap.size w w' := by
  have lp := lt_of_heap hp
  have lm := hm.lt
  have HPL : Hid (∀ W, Below w.heap.size w W → Calls Tryd.prog 36 #[.pointer (some ⟨p, 0, none⟩)] W fun e w' => ∃ v, e = .returned v ∧ IsQ w' W.heap.size v (srt (keysOf lst)) ∧ Below W.heap.size W w') := fun W hb => places_any p m cg lst W (blk11 hb hp) (hm.next hb) (by omega)
  have HC : Hid (∀ (z : World) (q1 q2 : Nat) (T1 T2 : TypeId), z.heap[p]? = w.heap[p]? → z.heap[m]? = w.heap[m]? → z.heap[q1]? = some (.cells #[.pointer (some ⟨p, 0, none⟩)] T1 (0, 0)) → z.heap[q2]? = some (.cells #[.int .u8 g] T2 (0, 0)) → ∀ x ∈ srt (keysOf lst), Calls Tryd.prog 37 #[.agg x.A, .pointer (some ⟨q1, 0, none⟩), .pointer (some ⟨q2, 0, none⟩)] z fun e w' => e = .returned (.bool (decide ((stB g (lookP lst x.i x.s)) = false))) ∧ Below z.heap.size z w') := by
    intro z q1 q2 T1 T2 e1 e2 e3 e4 x hx
    obtain ⟨u, hu⟩ := look_mem ((srt_perm _).mem_iff.1 hx)
    obtain ⟨nm, t, rt, d, ld, cd, l, ll, cl, h, lh, ch, tg, gr, v, lv, cv, rfl⟩ := hi _ _ _ hu
    have := stored1_any p m q1 q2 cg g lst x.i x.s nm t rt d ld cd l ll cl h lh ch tg gr v lv cv z T1 T2 e3 e4 (e1.trans hp) (by obtain ⟨es, c, hb, r⟩ := hm; exact ⟨es, c, e2.trans hb, r⟩) hu
    rw [hu]
    refine this.mono ?_
    rintro e w' ⟨rfl, hb⟩
    refine ⟨?_, hb⟩
    show Ending.returned (Value.bool (!stI rt gr g)) = Ending.returned (Value.bool (decide (stI rt gr g = false)))
    cases stI rt gr g <;> rfl
  have LN : Hid ((srt (keysOf lst)).length ≤ 100000) := by
    show _ ≤ _
    rw [(srt_perm _).length_eq]
    unfold keysOf
    rw [List.length_map]
    exact hl
  have HS : Hid (sto lst g = (srt (keysOf lst)).filter fun x => stB g (lookP lst x.i x.s)) := rfl
  clear hp hm hi hl
  go_enter Tryd.func22, Tryd.ntmps22
  go_wp2_with fail
  refine (HPL.out _ (by repeat (first | exact Below.refl _ _ | apply Below.drew | apply Below.al))).mono ?_
  rintro e w1 ⟨v, rfl, hq, hb⟩
  have B1 : Hid (Below w.heap.size w w1) := Below.andThen (by repeat (first | exact Below.refl _ _ | apply Below.drew | apply Below.al)) hb
  have X1 : Hid (w1.heap[w.heap.size]? = some (.cells #[.pointer (some ⟨p, 0, none⟩)] 25 (0, 0))) := blk11 hb (ext11 (at11 _ _ _ rfl))
  have X2 : Hid (w1.heap[w.heap.size + 1]? = some (.cells #[.int .u8 g] 5 (0, 0))) := blk11 hb (at11 _ _ _ (by simp))
  rw [show ((w.alloc (.cells #[.pointer (some ⟨p, 0, none⟩)] 25)).alloc (.cells #[.int .u8 g] 5)).heap.size = w.heap.size + 2 from by simp] at hq
  have HQ : Hid (IsQ w1 (w.heap.size + 2) v (srt (keysOf lst))) := hq
  clear hb hq HPL
  have HD : Hid (Calls Tryd.prog 35 #[v, .func (.func 37) #[] #[.pointer (some ⟨w.heap.size, 0, none⟩), .pointer (some ⟨w.heap.size + 1, 0, none⟩)]] w1 fun e w' => ∃ v', e = .returned v' ∧ IsQ w' (w.heap.size + 2) v' (sto lst g) ∧ Below (w.heap.size + 2) w1 w') := by
    rcases HQ.out.form with ⟨h1, h2⟩ | ⟨gb, cap, cur, hv, hg, _⟩
    · rw [h1]
      refine (del_none none 0 _ w1).mono ?_
      rintro e w' ⟨rfl, rfl⟩
      exact ⟨_, rfl, by rw [HS.out, h2]; exact isQ_nil _ _, Below.refl _ _⟩
    · have hq := HQ.out
      rw [hv] at hq ⊢
      refine (qdel_any (nd := fun x => stB g (lookP lst x.i x.s)) hq rfl LN.out (.pointer (some ⟨w.heap.size, 0, none⟩)) (.pointer (some ⟨w.heap.size + 1, 0, none⟩)) (fun z hz x hx => ?_)).mono ?_
      · refine HC.out z w.heap.size (w.heap.size + 1) _ _ ?_ ?_ (hz.at (by simp; omega) X1.out) (hz.at (by simp; omega) X2.out) x hx
        · rw [hz.block p (by have := B1.out.size; omega) (by simp; omega)]; exact B1.out.block p lp
        · rw [hz.block m (by have := B1.out.size; omega) (by simp; omega)]; exact B1.out.block m lm
      · rintro e w' ⟨rfl, r1, r2⟩
        exact ⟨_, rfl, by rw [HS.out]; exact r1, r2.os, r2.tape, r2.output, r2.size, fun k hk => r2.block k (by have := lt_of_heap X2.out; omega) (by simp; omega)⟩
  go_wp2_with fail
  refine HD.out.mono ?_
  rintro e w2 ⟨v', rfl, hq, hb⟩
  have R : Hid (IsQ w2 w.heap.size v' (sto lst g) ∧ Below w.heap.size w w2) := ⟨hq.mono (by omega), B1.out.trans (hb.mono (by omega))⟩
  clear hq hb
  go_wp2_with fail
  go_ret
  exact ⟨_, rfl, R.out⟩
#print axioms stored_any
end Go.Proofs.YtpjmebaipnpegaaDoor
namespace Go.Proofs.YtpjmebaipnpegaaDoor
open Go.RowKit

/-- Bytes in memory of their own. -/
abbrev IsO (w : World) (base : Nat) (v : Value) (zs : List Int) : Prop := w.ownsRow base 5 1 v zs.length (zs.map (Value.int .u8))
theorem infoUh : (Tryd.prog.info? 5).map (fun i => (i.zero, i.size, i.bytes)) = some (some (.int .u8 0), 1, 1) := by kernel_rfl
theorem isO_nil (w : World) (b : Nat) : IsO w b (.slice none 0 0) [] := ⟨rfl, .inl ⟨rfl, rfl⟩⟩
theorem IsO.kept2 {w w' : World} {b : Nat} {v : Value} {zs : List Int} (h : IsO w b v zs) (hk : ∀ k, v.ownBlock = some k → w'.heap[k]? = w.heap[k]?) : IsO w' b v zs := by
  refine ⟨h.1, ?_⟩
  rcases h.2 with ⟨h1, h2⟩ | ⟨g, cap, cur, hv, hb, hh, r⟩
  · exact .inl ⟨h1, h2⟩
  · exact .inr ⟨g, cap, cur, hv, hb, (hk g (by rw [hv]; rfl)).trans hh, r⟩
theorem IsO.next {w w' : World} {b : Nat} {v : Value} {zs : List Int} (h : IsO w b v zs) (hb : Below w.heap.size w w') : IsO w' b v zs := h.kept2 fun k hk => hb.block k (h.lt k hk).2
theorem IsO.row {w : World} {b : Nat} {v : Value} {zs : List Int} (h : IsO w b v zs) (ho : Oct zs) : ∃ a cap, v = .slice a zs.length cap ∧ zs.length ≤ cap ∧ cap ≤ maxLen ∧ Row w a zs.length zs := by
  rcases h.2 with ⟨rfl, h0⟩ | ⟨g, cap, cur, rfl, hg, hc, hn, hm, hs, ht⟩
  · obtain rfl := List.eq_nil_of_length_eq_zero h0
    exact ⟨none, 0, rfl, Nat.le_refl _, by decide, row_nil w⟩
  · refine ⟨_, cap, rfl, hn, hm, ⟨rfl, ho, fun _ => ⟨g, 0, rfl, fun i hi => ?_⟩⟩⟩
    have := h.cellAt i (by omega)
    rw [Nat.zero_add, this]
    simp [List.getD_eq_getElem?_getD, hi]
/-- A row of bytes put behind such that are one's own. -/
theorem wpList_append_row {ops : Array Oper} {rest : List Oper} {o : Oper} {a : Act} {w : World} {Q : Exit → Act → World → Prop} (hgd : o.guard = none) (s x : Operand)
    (ho : o.op = .call { callee := .builtin .append, args := #[s, x], argTypes := #[34, 34] }) (base : Nat) (v : Value) (zs : List Int) (hs : a.eval s = v) (hown : IsO w base v zs) (hz : 0 < zs.length)
    (ad : Option Addr) (len cap : Nat) (ys : List Int) (hx : a.eval x = .slice ad len cap) (hr : Row w ad len ys) (h63 : zs.length + len ≤ 100000000000) (hbase : base ≤ w.heap.size)
    (h : ∀ v' w', IsO w' base v' (zs ++ ys) → w.grownBy w' v.ownBlock → wpList Tryd.prog ops Q rest (a.put o.dst v') w') : wpList Tryd.prog ops Q (o :: rest) a w := by
  obtain ⟨i0, hi, hz0, hz1, hz2⟩ := info_parts infoUh
  rcases Nat.eq_zero_or_pos len with rfl | hp
  · obtain rfl := hr.nil
    have hown' := hown
    rcases hown.2 with ⟨_, h0⟩ | ⟨g, cp, cur, rfl, hg, hc, hn, hm, hsz, ht⟩
    · omega
    · have hsrc : Src Tryd.prog i0.size 34 (.slice ad 0 cap) 0 [] w := by
        cases ad with
        | none => exact Src.ofNil w Tryd.underlying34 cap
        | some b => exact Src.ofSlice w Tryd.underlying34 b 0 cap [] (by simp) (by simp) (by simp)
      have hrun := run_append_room_src (P := Tryd.prog) w 34 34 o.type 5 i0 Tryd.underlying34 hi g 0 zs.length cp _ 0 [] hsrc (by omega) (by simp) (by simp)
      refine wpList_plain hgd fun K' hK' => ?_
      unfold Oper.wp
      simp [execOp, ho, resolve, invoke, builtin, hs, hx, hrun, Result.andThen]
      refine hK' _ _ (h _ _ ?_ ?_)
      · rw [List.append_nil]
        exact hown'
      · exact ⟨rfl, rfl, rfl, Nat.le_refl _, fun _ _ _ => rfl⟩
  · obtain ⟨b, off, rfl, hc⟩ := hr.at_ hp
    refine wpList_append_own (P := Tryd.prog) w hgd s x 34 ho base 5 i0 _ 1 1 Tryd.underlying34 hi hz0 hz1 hz2 rfl (by decide) v zs.length _ hs hown ⟨b, off, none⟩ len cap (ys.map (Value.int .u8)) hx (by simp [hr.size]) ?_ (fun u hu => by obtain ⟨q, _, rfl⟩ := List.mem_map.1 hu; rfl) (by unfold maxLen; omega) (by omega) hbase ?_
    · intro j u hj
      have hjl : j < ys.length := by
        have := (List.getElem?_eq_some_iff.1 hj).1
        simpa using this
      rw [Addr.add_lit, hc j (by rw [← hr.size]; exact hjl)]
      rw [List.getElem?_map, List.getElem?_eq_getElem hjl] at hj
      rw [List.getD_eq_getElem?_getD, List.getElem?_eq_getElem hjl]
      simpa using hj
    · intro v' w' k1 k2 _
      refine h v' w' ?_ k2
      show w'.ownsRow base 5 1 v' (zs ++ ys).length ((zs ++ ys).map (Value.int .u8))
      rw [List.map_append, List.length_append, hr.size]
      exact k1
#print axioms wpList_append_row

/-- A record's bytes. -/
def recB (i s : Int) (zv : List Int) : List Int := [i % 256, i / 256, s, (zv.length : Int) % 256, (zv.length : Int) / 256 % 256] ++ zv

set_option linter.unusedSimpArgs false in
set_option maxHeartbeats 4000000 in
set_option maxRecDepth 100000 in
theorem appendTo_any (i s : Int) (v : Option Addr) (lv cv : Nat) (zv zs : List Int) (rv : Value) (base : Nat) (w : World) (hown : IsO w base rv zs) (hbase : base ≤ w.heap.size) (HV : ∀ W, Below base w W → Row W v lv zv) (hi : 0 ≤ i) (hi' : i < 65536) (hlv : lv ≤ 16777216) (hl : zs.length ≤ 50000000000) :
    Calls Tryd.prog 23 #[.agg #[.int .u16 i, .int .u8 s, .slice v lv cv], rv] w fun e w' => ∃ v', e = .returned v' ∧ IsO w' base v' (zs ++ recB i s zv) ∧ w.grownBy w' rv.ownBlock := by
  obtain ⟨i0, hi0, hz0, hz1, hz2⟩ := info_parts infoUh
  have HO : Hid (IsO w base rv zs) := hown
  have HW : Hid (∀ W, Below base w W → Row W v lv zv) := HV
  have HL : Hid (zv.length = lv) := (HV w (Below.refl _ _)).size
  have OB : Hid (∀ k, rv.ownBlock = some k → base ≤ k ∧ k < w.heap.size) := hown.lt
  clear hown HV
  go_enter Tryd.func23, Tryd.ntmps23
  go_wp2_with (at_builtin; refine wpList_append_lies _ rfl _ _ 34 rfl base 5 i0 (.int .u8 0) 1 1 Tryd.underlying34 hi0 hz0 hz1 hz2 rfl (by decide) rv zs.length (zs.map (Value.int .u8)) rfl (HO.out.next (by repeat (first | exact Below.refl _ _ | apply Below.drew | apply Below.al))) ⟨w.heap.size + 1, 0, none⟩ 5 5 ([i % 256, i / 256, s, (lv : Int) % 256, (lv : Int) / 256 % 256].map (Value.int .u8)) rfl rfl ?c1 ?c2 (by decide) ?c3 ?c4 ?c5 (w.heap.size + 2) (by simp) ?_)
  case c1 =>
    intro j u hj
    rw [Addr.add_lit, Nat.zero_add]
    match j, hj with
    | 0, hj => rw [cell_of_row _ _ 0 _ _ _ (at11 _ _ _ (by simp))]; simpa using hj
    | 1, hj => rw [cell_of_row _ _ 1 _ _ _ (at11 _ _ _ (by simp))]; simpa using hj
    | 2, hj => rw [cell_of_row _ _ 2 _ _ _ (at11 _ _ _ (by simp))]; simpa using hj
    | 3, hj => rw [cell_of_row _ _ 3 _ _ _ (at11 _ _ _ (by simp))]; simpa using hj
    | 4, hj => rw [cell_of_row _ _ 4 _ _ _ (at11 _ _ _ (by simp))]; simpa using hj
  case c2 =>
    intro u hu
    obtain ⟨q, _, rfl⟩ := List.mem_map.1 hu
    rfl
  case c3 => unfold maxLen; omega
  case c4 => omega
  case c5 => simp; omega
  intro g cap w1 h1 h2 hg _
  obtain ⟨v1, hv1⟩ : ∃ v1, Hid (v1 = Value.slice (some ⟨g, 0, none⟩) (zs.length + 5) cap) := ⟨_, rfl⟩
  rw [← hv1.out] at h1 ⊢
  have HG : Hid (∀ k, some k = v1.ownBlock → some k = rv.ownBlock ∨ k = w.heap.size + 2) := fun k hk => by
    rw [hv1.out] at hk
    cases hk
    exact hg.imp (fun e => e.symm) id
  have HZ : Hid (IsO w1 base v1 (zs ++ [i % 256, i / 256, s, (lv : Int) % 256, (lv : Int) / 256 % 256])) := by
    show w1.ownsRow _ _ _ _ _ _
    rw [List.length_append, List.map_append]
    exact h1
  have G1 : Hid (w.grownBy w1 rv.ownBlock) := ⟨h2.os, h2.tape, h2.output, by have := h2.size; simp at this; omega, fun k hk hn => by
    rw [h2.block k (by simp; omega) hn, Below.heap_alloc _ _ _ (by simp; omega), Below.heap_alloc _ _ _ (by omega)]⟩
  have B1 : Hid (Below base w w1) := ⟨h2.os, h2.tape, h2.output, G1.out.size, fun k hk => G1.out.block k (by omega) (fun e => by have := (OB.out k e.symm).1; omega)⟩
  have X1 : Hid (w1.heap[w.heap.size]? = some (.cells #[.int .u16 i, .int .u8 s, .slice v lv cv] 68 (0, 0))) := by
    show w1.heap[w.heap.size]? = _
    rw [h2.block w.heap.size (by simp; omega) (fun e => by have := (OB.out _ e.symm).2; omega)]
    exact ext11 (at11 _ _ _ rfl)
  have c2 : w1.cell? ⟨w.heap.size, 2, none⟩ = some (.slice v lv cv) := by rw [cell_of_row _ _ 2 _ _ _ X1.out]; rfl
  have RW := HW.out w1 B1.out
  have hb1 : base ≤ w1.heap.size := by have := G1.out.size; omega
  clear h1 h2 hg
  go_wp2_with (at_builtin; refine wpList_append_row rfl _ _ rfl base v1 _ rfl HZ.out (by simp) v lv cv zv rfl RW (by simp; omega) hb1 ?_)
  intro v2 w2 k1 k2
  have R : Hid (IsO w2 base v2 (zs ++ recB i s zv) ∧ w.grownBy w2 rv.ownBlock) := by
    refine ⟨?_, k2.os.trans G1.out.os, k2.tape.trans G1.out.tape, k2.output.trans G1.out.output, Nat.le_trans G1.out.size k2.size, fun k hk hn => ?_⟩
    · unfold recB
      rw [HL.out]
      exact k1
    · rw [k2.block k (by have := G1.out.size; omega) (fun e => (HG.out k e).elim hn (fun q => by omega))]
      exact G1.out.block k hk hn
  clear k1 k2
  go_wp2_with fail
  go_ret
  exact ⟨_, rfl, R.out⟩
#print axioms appendTo_any
end Go.Proofs.YtpjmebaipnpegaaDoor
namespace Go.Proofs.YtpjmebaipnpegaaDoor
open Go.RowKit

/-- What stands in a map is entries, with values in memory. -/
def Vals (w : World) (lst : Mp) (val : Int → Int → List Int) : Prop := ∀ i s u, lookP lst i s = some u → ∃ nm t rt d ld cd l ll cl h lh ch tg gr v lv cv, u = .agg (itC i s nm t rt d ld cd l ll cl h lh ch tg gr v lv cv) ∧ Row w v lv (val i s) ∧ lv ≤ 65535 ∧ 0 ≤ i ∧ i < 65536
theorem Vals.items {w : World} {lst : Mp} {val : Int → Int → List Int} (h : Vals w lst val) : Items lst := fun i s u hu => by
  obtain ⟨nm, t, rt, d, ld, cd, l, ll, cl, h, lh, ch, tg, gr, v, lv, cv, e, _⟩ := h i s u hu
  exact ⟨nm, t, rt, d, ld, cd, l, ll, cl, h, lh, ch, tg, gr, v, lv, cv, e⟩
/-- The records of a group's first entries. -/
def savK (lst : Mp) (g : Int) (val : Int → Int → List Int) (k : Nat) : List Int := ((sto lst g).take k).flatMap fun x => recB x.i x.s (val x.i x.s)
theorem savK_succ {lst : Mp} {g : Int} {val : Int → Int → List Int} {k : Nat} {x : Pq} (h : (sto lst g)[k]? = some x) : savK lst g val (k + 1) = savK lst g val k ++ recB x.i x.s (val x.i x.s) := by
  obtain ⟨hk, he⟩ := List.getElem?_eq_some_iff.1 h
  unfold savK
  rw [List.take_succ_eq_append_getElem hk, List.flatMap_append, he]
  simp
theorem sto_mem {lst : Mp} {g : Int} {x : Pq} (h : x ∈ sto lst g) : x ∈ keysOf lst := (srt_perm _).mem_iff.1 (List.mem_filter.1 h).1
theorem sto_len (lst : Mp) (g : Int) : (sto lst g).length ≤ lst.length := by
  unfold sto
  refine Nat.le_trans (List.length_filter_le _ _) ?_
  rw [(srt_perm _).length_eq]
  unfold keysOf
  simp
theorem savK_len {w : World} {lst : Mp} {g : Int} {val : Int → Int → List Int} (h : Vals w lst val) (k : Nat) (hk : k ≤ (sto lst g).length) : (savK lst g val k).length ≤ k * 65540 := by
  induction k with
  | zero => simp [savK]
  | succ k ih =>
    have hx : (sto lst g)[k]? = some (sto lst g)[k] := List.getElem?_eq_getElem (by omega)
    obtain ⟨u, hu⟩ := look_mem (sto_mem (List.mem_of_getElem? hx))
    obtain ⟨nm, t, rt, d, ld, cd, l, ll, cl, h, lh, ch, tg, gr, v, lv, cv, _, hr, hl, _⟩ := h _ _ _ hu
    have := hr.size
    have e := ih (by omega)
    rw [savK_succ hx, List.length_append]
    unfold recB
    simp
    omega
theorem IsQ.form2 {w : World} {b : Nat} {v : Value} {l : List Pq} (h : IsQ w b v l) : ∃ a cap, v = .slice a l.length cap ∧ (0 < l.length → ∃ q, a = some ⟨q, 0, none⟩) := by
  rcases h.form with ⟨h1, h2⟩ | ⟨q, cap, _, hv, _⟩
  · rw [h2]
    exact ⟨_, _, h1, fun h => absurd h (by simp)⟩
  · exact ⟨_, _, hv, fun _ => ⟨q, rfl⟩⟩
theorem recB_oct {i s : Int} {zv : List Int} (hi : 0 ≤ i) (hi' : i < 65536) (hs : 0 ≤ s) (hs' : s < 256) (hz : Oct zv) : Oct (recB i s zv) := by
  unfold recB
  refine Oct.app (fun n hn => ?_) hz
  simp at hn
  rcases hn with rfl | rfl | rfl | rfl | rfl <;> omega

theorem fieldI (i s : Int) (nm : ByteArray) (t rt : Int) (d : Option Addr) (ld cd : Nat) (l : Option Addr) (ll cl : Nat) (h : Option Addr) (lh ch : Nat) (tg gr : Int) (v : Option Addr) (lv cv : Nat) (w : World) : (Instr.field 54 (.agg (itC i s nm t rt d ld cd l ll cl h lh ch tg gr v lv cv)) 1).run Tryd.prog w = .ok (.slice v lv cv) w := by kernel_rfl
theorem IsO.mono {w : World} {b c : Nat} {v : Value} {zs : List Int} (h : IsO w b v zs) (hc : c ≤ b) : IsO w c v zs := by
  refine ⟨h.1, ?_⟩
  rcases h.2 with h1 | ⟨g, cap, cur, hv, hg, r⟩
  · exact .inl h1
  · exact .inr ⟨g, cap, cur, hv, by omega, r⟩

set_option linter.unusedSimpArgs false in
set_option maxHeartbeats 4000000 in
set_option maxRecDepth 100000 in
theorem save_any (p m : Nat) (cg g : Int) (lst : Mp) (val : Int → Int → List Int) (w : World) (hp : w.heap[p]? = some (.cells #[.map (some m), .int .i64 cg] 50 (0, 0))) (hm : IsM w m lst) (hv : Vals w lst val) (hl : lst.length ≤ 100000) :
    Calls Tryd.prog 8 #[.pointer (some ⟨p, 0, none⟩), .int .u8 g] w fun e w' => ∃ v, e = .returned v ∧ IsO w' w.heap.size v (savK lst g val (sto lst g).length) ∧ Below w.heap.size w w' := by
  have lp := lt_of_heap hp
  have lm := hm.lt
  have HST : Hid (Calls Tryd.prog 22 #[.pointer (some ⟨p, 0, none⟩), .int .u8 g] w fun e w' => ∃ v, e = .returned v ∧ IsQ w' w.heap.size v (sto lst g) ∧ Below w.heap.size w w') := stored_any p m cg g lst w hp hm hv.items hl
  have HP0 : Hid (w.heap[p]? = some (.cells #[.map (some m), .int .i64 cg] 50 (0, 0))) := hp
  have HM0 : Hid (IsM w m lst) := hm
  have HV : Hid (Vals w lst val) := hv
  have LN : Hid ((sto lst g).length ≤ 100000) := Nat.le_trans (sto_len lst g) hl
  clear hp hm hv hl
  go_enter Tryd.func8, Tryd.ntmps8
  go_wp2_with fail
  refine HST.out.mono ?_
  rintro e w1 ⟨vq, rfl, hq, hb⟩
  obtain ⟨a, cap, rfl, ha⟩ := hq.form2
  obtain ⟨N, hN⟩ : ∃ N, Hid (N = (sto lst g).length) := ⟨_, rfl⟩
  rw [← hN.out] at hq ha LN ⊢
  have HQ : Hid (IsQ w1 w.heap.size (.slice a N cap) (sto lst g)) := hq
  have HA : Hid (0 < N → ∃ q, a = some ⟨q, 0, none⟩) := ha
  have B1 : Hid (Below w.heap.size w w1) := hb
  have hN1 := LN.out
  clear hq ha hb HST
  go_wp2_with fail
  go_loopw [5, 14] (fun u iv wr => ∃ k : Nat, k ≤ N ∧ iv = .int .i64 (k : Int) ∧ Hid (IsO wr w1.heap.size u (savK lst g val k) ∧ Below w1.heap.size w1 wr)) (fun _ iv _ => N - (intOf iv).toNat)
  case atStart => exact ⟨0, Nat.zero_le _, rfl, isO_nil _ _, Below.refl _ _⟩
  case round =>
    obtain ⟨k, hk, rfl, HR⟩ := hrel
    by_cases hkN : k < N
    · obtain ⟨q, rfl⟩ := HA.out (by omega)
      have gk : (k : Int) < (N : Int) := by omega
      have gk0 : (0 : Int) ≤ (k : Int) := by omega
      have HX := at_some (sto lst g) k (by rw [← hN.out]; exact hkN)
      obtain ⟨x, hx⟩ : ∃ x, Hid (x = at_ (sto lst g) k) := ⟨_, rfl⟩
      rw [← hx.out] at HX
      obtain ⟨u, hu⟩ := look_mem (sto_mem (List.mem_of_getElem? HX))
      obtain ⟨nm, t, rt, d, ld, cd, l, ll, cl, h, lh, ch, tg, gr, v, lv, cv, rfl, hrow, hlv, hi0, hi1⟩ := HV.out _ _ _ hu
      have BR : Hid (Below w1.heap.size w1 wr) := HR.out.2
      have BW : Hid (Below w.heap.size w wr) := Below.andThen B1.out HR.out.2
      have HP : Hid (w.heap[p]? = some (.cells #[.map (some m), .int .i64 cg] 50 (0, 0))) := HP0.out
      have HM : Hid (IsM w m lst) := HM0.out
      have HU : Hid (lookP lst x.i x.s = some (.agg (itC x.i x.s nm t rt d ld cd l ll cl h lh ch tg gr v lv cv))) := hu
      have lpr : p < wr.heap.size := by have := BW.out.size; omega
      have LD := ((show IsQ w1 w.heap.size (.slice (some ⟨q, 0, none⟩) (sto lst g).length cap) (sto lst g) from by rw [← hN.out]; exact HQ.out).next HR.out.2).load k x HX
      have APP : Hid (∀ W, Below wr.heap.size wr W → Calls Tryd.prog 23 #[.agg #[.int .u16 x.i, .int .u8 x.s, .slice v lv cv], u5] W fun e w' => ∃ v', e = .returned v' ∧ IsO w' w1.heap.size v' (savK lst g val (k + 1)) ∧ W.grownBy w' u5.ownBlock) := fun W hW => by
        have hlen := savK_len HV.out k (by rw [← hN.out]; exact hk)
        have hs1 := HR.out.2.size
        have hs2 := hW.size
        have B2 : Below w1.heap.size w1 W := Below.andThen HR.out.2 hW
        have := appendTo_any x.i x.s v lv cv (val x.i x.s) (savK lst g val k) u5 w1.heap.size W (HR.out.1.next hW) (by omega) (fun W2 h2 => hrow.next (Below.andThen B1.out (B2.trans h2))) hi0 hi1 (by omega) (by omega)
        rw [← savK_succ HX] at this
        exact this
      have OWN : Hid (∀ (z W : World), (Below w1.heap.size w1 W ∧ W.heap[p]? = some (.cells #[.map (some m), .int .i64 cg] 50 (0, 0)) ∧ IsM W m lst ∧ W.heap[wr.heap.size]? = some (.cells #[.int .u16 x.i, .int .u8 x.s] 33 (0, 0)) ∧ wr.heap.size + 1 ≤ W.heap.size) → W.grownBy z u5.ownBlock → (Below w1.heap.size w1 z ∧ z.heap[p]? = some (.cells #[.map (some m), .int .i64 cg] 50 (0, 0)) ∧ IsM z m lst ∧ z.heap[wr.heap.size]? = some (.cells #[.int .u16 x.i, .int .u8 x.s] 33 (0, 0)) ∧ wr.heap.size + 1 ≤ z.heap.size)) := fun z W hS hg => by
        obtain ⟨s1, s2, s3, s4, s5⟩ := hS
        have hs1 := HR.out.2.size
        have hs0 := B1.out.size
        have nb : ∀ kk, kk < w1.heap.size ∨ wr.heap.size ≤ kk → some kk ≠ u5.ownBlock := fun kk hkk e => by have := HR.out.1.lt kk e.symm; omega
        refine ⟨⟨hg.os.trans s1.os, hg.tape.trans s1.tape, hg.output.trans s1.output, Nat.le_trans s1.size hg.size, fun kk hkk => (hg.block kk (by omega) (nb kk (.inl hkk))).trans (s1.block kk hkk)⟩, (hg.block p (by omega) (nb p (.inl (by omega)))).trans s2, ?_, (hg.block _ (by omega) (nb _ (.inr (Nat.le_refl _)))).trans s4, Nat.le_trans s5 hg.size⟩
        obtain ⟨es, c, hb, r⟩ := s3
        exact ⟨es, c, (hg.block m (by omega) (nb m (.inl (by omega)))).trans hb, r⟩
      go_wp2_with (refine wpList_load_by rfl 33 (.tmp 16) rfl _ _ rfl LD ?_)
      refine wp_region_held_drew (S := fun z => Below w1.heap.size w1 z ∧ z.heap[p]? = some (.cells #[.map (some m), .int .i64 cg] 50 (0, 0)) ∧ IsM z m lst ∧ z.heap[wr.heap.size]? = some (.cells #[.int .u16 x.i, .int .u8 x.s] 33 (0, 0)) ∧ wr.heap.size + 1 ≤ z.heap.size) (by kernel_rfl) (⟨Below.drew (Below.al BR.out _), ext11 (blk11 BW.out HP.out), (HM.out.next BW.out).next (by repeat (first | exact Below.refl _ _ | apply Below.drew | apply Below.al)), at11 _ _ _ rfl, by simp⟩) (fun hHeld => ?_)
      refine tk 0 (plV x.i x.s) rfl (.inl ⟨by rfl, ?_⟩) ?_
      · intro w9 hSw
        try dsimp only at hSw
        exact ex_load11 33 (.tmp 7) rfl _ _ rfl (load_part 33 2 sizeP aggP _ (wr.heap.size) 0 [.int .u16 x.i, .int .u8 x.s] _ hSw.2.2.2.1 (by simp))
      try simp only [Act.put, gA, gS, gZ, sA, sZ, sS]
      refine tk 1 (.pointer (some ⟨p, 0, none⟩)) rfl (.inl ⟨by rfl, ?_⟩) ?_
      · intro w9 hSw
        try dsimp only at hSw
        go_simp
        all_goals try decide
        all_goals try assumption
        all_goals try omega
      try simp only [Act.put, gA, gS, gZ, sA, sZ, sS]
      refine tk 2 (.pointer (some ⟨p, 0, none⟩)) rfl (.inl ⟨by rfl, ?_⟩) ?_
      · intro w9 hSw
        try dsimp only at hSw
        go_simp
        all_goals try decide
        all_goals try assumption
        all_goals try omega
      try simp only [Act.put, gA, gS, gZ, sA, sZ, sS]
      refine tk 3 (.pointer (some ⟨p, 0, none⟩)) rfl (.inl ⟨by rfl, ?_⟩) ?_
      · intro w9 hSw
        try dsimp only at hSw
        go_simp
        all_goals try decide
        all_goals try assumption
        all_goals try omega
      try simp only [Act.put, gA, gS, gZ, sA, sZ, sS]
      refine tk 4 (.map (some m)) rfl (.inl ⟨by rfl, ?_⟩) ?_
      · intro w9 hSw
        try dsimp only at hSw
        have c0 : w9.cell? ⟨p, 0, none⟩ = some (.map (some m)) := by rw [cell_of_row _ _ 0 _ _ _ hSw.2.1]; rfl
        go_simp
        all_goals try assumption
      try simp only [Act.put, gA, gS, gZ, sA, sZ, sS]
      refine tk 5 (plV x.i x.s) rfl (.inl ⟨by rfl, ?_⟩) ?_
      · intro w9 hSw
        try dsimp only at hSw
        exact ex_load11 33 (.tmp 7) rfl _ _ rfl (load_part 33 2 sizeP aggP _ (wr.heap.size) 0 [.int .u16 x.i, .int .u8 x.s] _ hSw.2.2.2.1 (by simp))
      try simp only [Act.put, gA, gS, gZ, sA, sZ, sS]
      refine tk 6 (.agg (itC x.i x.s nm t rt d ld cd l ll cl h lh ch tg gr v lv cv)) rfl (.inl ⟨by rfl, ?_⟩) ?_
      · intro w9 hSw
        try dsimp only at hSw
        exact ex_look 48 (.tmp 22) (.tmp 23) false rfl _ _ _ rfl rfl (look_one _ m lst x.i x.s _ hSw.2.2.1 HU.out)
      try simp only [Act.put, gA, gS, gZ, sA, sZ, sS]
      refine tk 7 (.slice v lv cv) rfl (.inl ⟨by rfl, ?_⟩) ?_
      · intro w9 hSw
        try dsimp only at hSw
        go_simp
        rw [fieldI]
        rfl
      try simp only [Act.put, gA, gS, gZ, sA, sZ, sS]
      refine tk 8 (.agg #[.int .u16 x.i, .int .u8 x.s, .slice v lv cv]) rfl (.inl ⟨by rfl, ?_⟩) ?_
      · intro w9 hSw
        try dsimp only at hSw
        go_simp
        all_goals try decide
        all_goals try assumption
        all_goals try omega
      try simp only [Act.put, gA, gS, gZ, sA, sZ, sS]
      refine tk 9 (u5) rfl (.inl ⟨by rfl, ?_⟩) ?_
      · intro w9 hSw
        try dsimp only at hSw
        go_simp
        all_goals try decide
        all_goals try assumption
        all_goals try omega
      try simp only [Act.put, gA, gS, gZ, sA, sZ, sS]
      refine wpAnyH_ready (rs := [10]) (by kernel_rfl) (by simp) ?_
      refine AllReadyH.cons rfl (fun K' hK => ?_) AllReadyH.nil
      rw [if_pos (by rfl)]
      simp only [gA, gS, gZ]
      go_wp2_with fail
      refine (APP.out _ (Below.drew (Below.al (Below.refl _ _) _))).mono ?_
      rintro e z ⟨v5, rfl, ho5, hg5⟩
      have GG := OWN.out z _ hHeld hg5
      have HO5 : Hid (IsO z w1.heap.size v5 (savK lst g val (k + 1))) := ho5
      clear ho5 hg5
      try go_wp2_with fail
      refine hK.out _ _ (GG) (fun hHeld => ?_)
      clear hK K'
      try simp only [Act.put, gA, gS, gZ, sA, sZ, sS]
      refine tk 11 (v5) rfl (.inl ⟨by rfl, ?_⟩) ?_
      · intro w9 hSw
        try dsimp only at hSw
        go_simp
        all_goals try decide
        all_goals try assumption
        all_goals try omega
      try simp only [Act.put, gA, gS, gZ, sA, sZ, sS]
      refine wpAnyH_done (by kernel_rfl) ?_ _
      have BZ : Hid (Below w1.heap.size w1 z) := hHeld.1
      have wk : IntKind.i64.wrap ((k : Int) + 1) = ((k + 1 : Nat) : Int) := by rw [IntKind.wrap_i64]; omega
      clear hHeld LD APP OWN HX
      go_wp2_with fail
      exact ⟨⟨k + 1, by omega, rfl, HO5.out, BZ.out⟩, by simp [intOf]; omega⟩
    · obtain rfl : k = N := by omega
      have R : Hid (IsO wr w.heap.size u5 (savK lst g val (sto lst g).length) ∧ Below w.heap.size w wr) := ⟨by rw [← hN.out]; exact HR.out.1.mono B1.out.size, Below.andThen B1.out HR.out.2⟩
      go_wp2_with fail
      go_ret
      exact ⟨_, rfl, R.out⟩
#print axioms save_any
end Go.Proofs.YtpjmebaipnpegaaDoor
namespace Go.Proofs.YtpjmebaipnpegaaDoor
open Go.RowKit

set_option linter.unusedSimpArgs false in
set_option maxHeartbeats 4000000 in
set_option maxRecDepth 100000 in
theorem get_at (p m : Nat) (cg : Int) (lst : Mp) (i s : Int) (nm : ByteArray) (t rt : Int) (d : Option Addr) (ld cd : Nat) (l : Option Addr) (ll cl : Nat) (h : Option Addr) (lh ch : Nat) (tg gr : Int) (v : Option Addr) (lv cv : Nat) (zv : List Int) (w : World) (hp : w.heap[p]? = some (.cells #[.map (some m), .int .i64 cg] 50 (0, 0))) (hm : IsM w m lst) (hl : lookP lst i s = some (.agg (itC i s nm t rt d ld cd l ll cl h lh ch tg gr v lv cv))) (rv : SlOk w v lv cv zv) (hlv : lv ≤ 16777216) :
    Calls Tryd.prog 21 #[.pointer (some ⟨p, 0, none⟩), plV i s] w fun e w' => (∃ a' cap', e = .returned (.tuple #[.slice a' lv cap', .bool true]) ∧ Told w w' a' lv cap' zv) ∧ Below w.heap.size w w' := by
  have HF : Hid (∀ W, Below w.heap.size w W → Calls Tryd.prog 33 #[.pointer (some ⟨p, 0, none⟩), plV i s] W fun e w' => e = .returned (.tuple #[.agg (itC i s nm t rt d ld cd l ll cl h lh ch tg gr v lv cv), .int .u32 0]) ∧ Below W.heap.size W w') := fun W hb => find_at p m cg lst i s nm t rt d ld cd l ll cl h lh ch tg gr v lv cv W (blk11 hb hp) (hm.next hb) hl
  have HC : Hid (∀ W, Below w.heap.size w W → Calls Tryd.prog 16 #[.slice v lv cv] W fun e w' => (∃ a' cap', e = .returned (.slice a' lv cap') ∧ Told W w' a' lv cap' zv) ∧ Below W.heap.size W w') := fun W hb => clone8_any v lv cv zv W (rv.row.next hb) hlv
  clear hp hm hl rv
  go_enter Tryd.func21, Tryd.ntmps21
  go_wp2_with fail
  refine (HF.out _ (by repeat (first | exact Below.refl _ _ | apply Below.drew | apply Below.al))).mono ?_
  rintro e w1 ⟨rfl, hb⟩
  have B1 : Hid (Below w.heap.size w w1) := Below.andThen (by repeat (first | exact Below.refl _ _ | apply Below.drew | apply Below.al)) hb
  clear hb
  go_wp2_with fail
  refine (HC.out _ (Below.al B1.out _)).mono ?_
  rintro e w3 ⟨⟨a', cap', rfl, ht⟩, hb⟩
  have T3 : Hid (Told (w1.alloc (.cells (itC i s nm t rt d ld cd l ll cl h lh ch tg gr v lv cv) 54)) w3 a' lv cap' zv) := ht
  have N3 : Hid (Below w.heap.size w w3) := Below.andThen (Below.al B1.out _) hb
  clear hb ht
  go_wp2_with fail
  go_ret2
  exact ⟨⟨a', cap', rfl, T3.out.keep11 (by have := B1.out.size; simp; omega) (fun _ _ _ => rfl)⟩, N3.out⟩

#print axioms get_at

/-- The example's three entries. -/
def exE12 (a1 : Option Addr) (c1 : Nat) (a2 : Option Addr) (c2 : Nat) (a3 : Option Addr) (c3 : Nat) : List Em := [⟨24576, 1, ⟨#[]⟩, 5, 7, a1, 1, c1, none, 0, 0, none, 0, 0, 0, 0, [3], [], []⟩, ⟨24576, 2, ⟨#[]⟩, 1, 7, a2, 1, c2, none, 0, 0, none, 0, 0, 0, 0, [1], [], []⟩, ⟨24576, 3, ⟨#[]⟩, 3, 7, a3, 2, c3, none, 0, 0, none, 0, 0, 0, 0, [254, 255], [], []⟩]
/-- Its three Maps. -/
def ms12 : List Mq := [⟨24576, 1, 8⟩, ⟨24576, 2, 1⟩, ⟨24576, 3, 16⟩]
theorem o12a : Oct [3] := fun n hn => by simp at hn; omega
theorem o12b : Oct [1] := fun n hn => by simp at hn; omega
theorem o12c : Oct [254, 255] := fun n hn => by simp at hn; omega

end Go.Proofs.YtpjmebaipnpegaaDoor
namespace Go.Proofs.YtpjmebaipnpegaaDoor
open Go.RowKit

/-- An item's group. -/
def itG : Value → Int
  | .agg c => match c[9]? with
    | some (Value.int _ t) => t
    | _ => 0
  | _ => 0
/-- The groups of a dictionary's items. -/
def GrD (lst : Mp) (G : Int → Int → Int) : Prop := ∀ i s u, lookP lst i s = some u → itG u = G i s
theorem GrD.put {lst : Mp} {G : Int → Int → Int} (h : GrD lst G) {i s : Int} {v : Value} (hv : itG v = G i s) : GrD (putP lst i s v) G := fun j r u hu => by
  rw [lookP_put] at hu
  by_cases hc : (j == i && r == s) = true
  · rw [if_pos hc] at hu
    cases hu
    obtain ⟨q1, q2⟩ : j = i ∧ r = s := by simpa using hc
    rw [q1, q2]
    exact hv
  · rw [if_neg hc] at hu
    exact h j r u hu
theorem keys_put : ∀ (lst : Mp) (i s : Int) (u v : Value), lookP lst i s = some u → keysOf (putP lst i s v) = keysOf lst
  | [], _, _, _, _, h => by cases h
  | x :: l, i, s, u, v, h => by
    simp only [lookP] at h
    simp only [putP]
    split at h
    · rename_i hc
      obtain ⟨q1, q2⟩ : i = x.1 ∧ s = x.2.1 := by simpa using hc
      rw [if_pos hc]
      simp [keysOf, q1, q2]
    · rename_i hc
      rw [if_neg hc]
      have := keys_put l i s u v h
      simp only [keysOf, List.map_cons] at this ⊢
      rw [this]
/-- A dictionary in memory. -/
def Dk (w : World) (p m : Nat) (cg : Int) (ks : List Pq) (I : Int → Int → Option It) (G : Int → Int → Int) : Prop := ∃ lst, w.heap[p]? = some (.cells #[.map (some m), .int .i64 cg] 50 (0, 0)) ∧ IsM w m lst ∧ ItD w lst I ∧ (keysOf lst).Perm ks ∧ GrD lst G ∧ Ty.Tab64 w
theorem Dk.next {w w' : World} {p m : Nat} {cg : Int} {ks : List Pq} {I : Int → Int → Option It} {G : Int → Int → Int} (h : Dk w p m cg ks I G) (hb : Below w.heap.size w w') : Dk w' p m cg ks I G := by
  obtain ⟨lst, h1, h2, h3, h4, h5, h6⟩ := h
  exact ⟨lst, blk11 hb h1, h2.next hb, h3.next hb, h4, h5, tab_next h6 hb⟩
theorem Dk.lt {w : World} {p m : Nat} {cg : Int} {ks : List Pq} {I : Int → Int → Option It} {G : Int → Int → Int} (h : Dk w p m cg ks I G) : p < w.heap.size ∧ m < w.heap.size := by
  obtain ⟨lst, h1, h2, _⟩ := h
  exact ⟨lt_of_heap h1, h2.lt⟩
/-- Beside another one that is written to. -/
theorem Dk.kp {w w' : World} {p m : Nat} {cg : Int} {ks : List Pq} {I : Int → Int → Option It} {G : Int → Int → Int} (h : Dk w p m cg ks I G) {p' m' : Nat} {cg' : Int} {ks' : List Pq} {J : Int → Int → Option It} {G' : Int → Int → Int} (hx : Dk w p' m' cg' ks' J G') (hk : Kp [p', m'] w w') (n1 : p ≠ p') (n2 : p ≠ m') (n3 : m ≠ p') (n4 : m ≠ m') : Dk w' p m cg ks I G := by
  obtain ⟨l2, g1, g2, _⟩ := hx
  obtain ⟨lst, h1, h2, h3, h4, h5, h6⟩ := h
  exact ⟨lst, hk.at (by simp; exact ⟨n1, n2⟩) h1, h2.kp hk (by simp; exact ⟨n3, n4⟩), h3.kpD g1 g2 hk, h4, h5, tab_kpD h6 g1 g2 hk⟩
/-- A value set at a place that is there. -/
theorem dk_put {w w' : World} {p m : Nat} {cg : Int} {ks : List Pq} {lst : Mp} {I : Int → Int → Option It} {G : Int → Int → Int} (h1 : w.heap[p]? = some (.cells #[.map (some m), .int .i64 cg] 50 (0, 0))) (h2 : IsM w m lst) (h3 : ItD w lst I) (h4 : (keysOf lst).Perm ks) (h5 : GrD lst G) (h6 : Ty.Tab64 w) {i s : Int} {x : It} (hx : I i s = some x)
    {nm : ByteArray} {d : Option Addr} {ld cd : Nat} {l : Option Addr} {ll cl : Nat} {h : Option Addr} {lh ch : Nat} {gr : Int} {v : Option Addr} {lv cv : Nat} {zd : List Int} (e : lookP lst i s = some (.agg (itC i s nm x.t x.rt d ld cd l ll cl h lh ch x.tg gr v lv cv))) (r1 : SlOk w d ld cd zd) (r2 : SlOk w l ll cl x.zl) (r3 : SlOk w h lh ch x.zh) (g1 : ld ≤ 16777216) (g2 : ll ≤ 16777216) (g3 : lh ≤ 16777216)
    {lb : Nat} {zb : List Int} (hlb : lb ≤ 16777216) (hzl : zb.length = lb) (hc : Ty.chkN x.t zb x.zl x.zh = 0) (hpp : PutPost i s nm x.t x.rt d ld cd l ll cl h lh ch x.tg gr p m cg lst lb zb w w') : Dk w' p m (cg + 1) ks (putI I i s zb) G ∧ Kp [p, m] w w' := by
  obtain ⟨a', c', k1, k2, k3, k4⟩ := hpp
  refine ⟨⟨_, k2, k3, fun j r => ?_, ?_, h5.put ?_, tab_kpD h6 h1 h2 k1⟩, k1⟩
  · rw [lookP_put]
    unfold putI
    by_cases hj : (j == i && r == s) = true
    · obtain ⟨q1, q2⟩ : j = i ∧ r = s := by simpa using hj
      rw [if_pos hj, if_pos hj, hx, q1, q2]
      exact .inr ⟨{ x with zv := zb }, rfl, nm, d, ld, cd, l, ll, cl, h, lh, ch, gr, a', lb, c', zd, rfl, r1.kpD h1 h2 k1, r2.kpD h1 h2 k1, r3.kpD h1 h2 k1, k4.sl, g1, g2, g3, hlb, fun hs => by rw [← chkN_size hc hs, hzl]⟩
    · rw [if_neg hj, if_neg hj]
      rcases h3 j r with h | ⟨x, hx, nm, d, ld, cd, l, ll, cl, h, lh, ch, gr, v, lv, cv, zd, e, r1, r2, r3, r4, g⟩
      · exact .inl h
      · exact .inr ⟨x, hx, nm, d, ld, cd, l, ll, cl, h, lh, ch, gr, v, lv, cv, zd, e, r1.kpD h1 h2 k1, r2.kpD h1 h2 k1, r3.kpD h1 h2 k1, r4.kpD h1 h2 k1, g⟩
  · rw [keys_put _ _ _ _ _ e]
    exact h4
  · rw [← h5 i s _ e]
    rfl
/-- Write. -/
theorem Dk.write {w : World} {p m : Nat} {cg : Int} {ks : List Pq} {I : Int → Int → Option It} {G : Int → Int → Int} (hD : Dk w p m cg ks I G) (i s : Int) (b : Option Addr) (lb cb : Nat) (zb : List Int) (rb : SlOk w b lb cb zb) (hlb : lb ≤ 16777216) (hc0 : 0 ≤ cg) (hc1 : cg < 4611686018427387904) (hne : p ≠ m) :
    Calls Tryd.prog 9 #[.pointer (some ⟨p, 0, none⟩), plV i s, .slice b lb cb] w fun e w' => ∃ c, e = .returned (.int .u32 c) ∧ ((c ≠ 0 ∧ Below w.heap.size w w') ∨ (c = 0 ∧ mayI I i s zb ∧ Dk w' p m (cg + 1) ks (putI I i s zb) G ∧ Kp [p, m] w w')) := by
  obtain ⟨lst, h1, h2, h3, h4, h5, h6⟩ := hD
  by_cases hz : mayK lst I i s zb = 0
  · have hM := mayK_I hz
    obtain ⟨x, hx, hr, hc⟩ := hM
    rcases h3 i s with ⟨_, h⟩ | ⟨y, hy, nm, d, ld, cd, l, ll, cl, h, lh, ch, gr, v, lv, cv, zd, e, r1, r2, r3, r4, g1, g2, g3, g4, g5⟩
    · rw [hx] at h; cases h
    · rw [hx] at hy
      cases hy
      refine (write_at p m cg lst i s nm x.t x.rt d ld cd l ll cl h lh ch x.tg gr v lv cv b lb cb zb x.zl x.zh w h1 h2 e rb r2 r3 h6 hr hc hlb hc0 hc1 hne).mono ?_
      rintro e' w' ⟨he, hpp⟩
      have := dk_put h1 h2 h3 h4 h5 h6 hx e r1 r2 r3 g1 g2 g3 hlb rb.row.size hc hpp
      exact ⟨0, he, .inr ⟨rfl, mayK_I hz, this.1, this.2⟩⟩
  · exact (write_no _ i s b lb cb _ hz w fun W hb => may_dic p m cg lst I i s b lb cb zb W (blk11 hb h1) (h2.next hb) (h3.next hb) (rb.next hb) (tab_next h6 hb)).mono fun e w' ⟨q1, q2⟩ => ⟨_, q1, .inl ⟨hz, q2⟩⟩
/-- Get of a place that is there. -/
theorem Dk.get {w : World} {p m : Nat} {cg : Int} {ks : List Pq} {I : Int → Int → Option It} {G : Int → Int → Int} (hD : Dk w p m cg ks I G) {i s : Int} {x : It} (hx : I i s = some x) :
    Calls Tryd.prog 21 #[.pointer (some ⟨p, 0, none⟩), plV i s] w fun e w' => (∃ a' cap', e = .returned (.tuple #[.slice a' x.zv.length cap', .bool true]) ∧ Told w w' a' x.zv.length cap' x.zv) ∧ Below w.heap.size w w' := by
  obtain ⟨lst, h1, h2, h3, h4, h5, h6⟩ := hD
  rcases h3 i s with ⟨_, h⟩ | ⟨y, hy, nm, d, ld, cd, l, ll, cl, h, lh, ch, gr, v, lv, cv, zd, e, r1, r2, r3, r4, g1, g2, g3, g4, g5⟩
  · rw [hx] at h; cases h
  · rw [hx] at hy
    cases hy
    rw [r4.row.size]
    exact get_at p m cg lst i s nm x.t x.rt d ld cd l ll cl h lh ch x.tg gr v lv cv x.zv w h1 h2 e r4 g4
/-- Every value is one. -/
def OkI (I : Int → Int → Option It) : Prop := ∀ i s x, I i s = some x → Ty.chkN x.t x.zv x.zl x.zh = 0
theorem OkI.put {I : Int → Int → Option It} (h : OkI I) {i s : Int} {zb : List Int} (hm : mayI I i s zb) : OkI (putI I i s zb) := fun j r x hx => by
  unfold putI at hx
  by_cases hj : (j == i && r == s) = true
  · rw [if_pos hj] at hx
    obtain ⟨y, h1, _, h3⟩ := hm
    rw [h1] at hx
    cases hx
    exact h3
  · rw [if_neg hj] at hx
    exact h j r x hx
theorem chkN_len {t : Int} {z lo hi : List Int} (h : Ty.chkN t z lo hi = 0) : z.length ≤ 4096 := by
  have hc : Ty.Pl.cbN t z = 0 := by
    unfold Ty.chkN at h
    split at h
    · exact h
    · rename_i hq; simpa using hq
  have hs := Ty.Pl.size_bd t
  unfold Ty.Pl.cbN at hc
  repeat' (split at hc)
  all_goals first | (exfalso; revert hc; decide) | omega
/-- Is a place's entry stored with a group? -/
def stK (I : Int → Int → Option It) (G : Int → Int → Int) (g : Int) (x : Pq) : Bool := match I x.i x.s with
  | none => false
  | some y => stI y.rt (G x.i x.s) g
/-- The places that are stored with a group, in their order. -/
def stoK (ks : List Pq) (I : Int → Int → Option It) (G : Int → Int → Int) (g : Int) : List Pq := (srt ks).filter (stK I G g)
/-- What is saved of a group. -/
def savI (ks : List Pq) (I : Int → Int → Option It) (G : Int → Int → Int) (g : Int) : List Int := (stoK ks I G g).flatMap fun x => recB x.i x.s (valI I x.i x.s)
theorem stB_K {w : World} {lst : Mp} {I : Int → Int → Option It} {G : Int → Int → Int} (h3 : ItD w lst I) (h5 : GrD lst G) (g : Int) (x : Pq) : stB g (lookP lst x.i x.s) = stK I G g x := by
  unfold stK
  rcases h3 x.i x.s with ⟨e1, e2⟩ | ⟨y, hy, nm, d, ld, cd, l, ll, cl, h, lh, ch, gr, v, lv, cv, zd, e, _⟩
  · rw [e1, e2]
    rfl
  · have hg := h5 x.i x.s _ e
    rw [e, hy]
    simp only
    rw [← hg]
    rfl
theorem sto_K {w : World} {lst : Mp} {ks : List Pq} {I : Int → Int → Option It} {G : Int → Int → Int} (h3 : ItD w lst I) (h4 : (keysOf lst).Perm ks) (h5 : GrD lst G) (g : Int) : sto lst g = stoK ks I G g := by
  unfold sto stoK
  rw [srt_eq h4]
  congr 1
  funext x
  exact stB_K h3 h5 g x
/-- Save. -/
theorem Dk.save {w : World} {p m : Nat} {cg : Int} {ks : List Pq} {I : Int → Int → Option It} {G : Int → Int → Int} (hD : Dk w p m cg ks I G) (hO : OkI I) (hR : ∀ x ∈ ks, 0 ≤ x.i ∧ x.i < 65536) (hl : ks.length ≤ 100000) (g : Int) :
    Calls Tryd.prog 8 #[.pointer (some ⟨p, 0, none⟩), .int .u8 g] w fun e w' => ∃ v, e = .returned v ∧ IsO w' w.heap.size v (savI ks I G g) ∧ Below w.heap.size w w' := by
  obtain ⟨lst, h1, h2, h3, h4, h5, h6⟩ := hD
  have hv : Vals w lst (valI I) := fun i s u hu => by
    rcases h3 i s with ⟨e1, _⟩ | ⟨y, hy, nm, d, ld, cd, l, ll, cl, h, lh, ch, gr, v, lv, cv, zd, e, _, _, _, r4, _⟩
    · rw [e1] at hu; cases hu
    · rw [e] at hu
      cases hu
      have hk : (⟨i, s⟩ : Pq) ∈ ks := h4.mem_iff.1 (List.mem_map.2 ⟨_, lookP_mem _ _ _ _ e, rfl⟩)
      have hb := hR _ hk
      have hn := chkN_len (hO i s y hy)
      rw [r4.row.size] at hn
      exact ⟨nm, y.t, y.rt, d, ld, cd, l, ll, cl, h, lh, ch, y.tg, gr, v, lv, cv, rfl, by unfold valI; rw [hy]; exact r4.row, by omega, hb.1, hb.2⟩
  have hll : lst.length ≤ 100000 := by
    have := h4.length_eq
    unfold keysOf at this
    simp at this
    omega
  have := save_any p m cg g lst (valI I) w h1 h2 hv hll
  unfold savK at this
  rw [List.take_of_length_le (Nat.le_refl _), sto_K h3 h4 h5] at this
  exact this
#print axioms Dk.write
#print axioms Dk.get
#print axioms Dk.save
end Go.Proofs.YtpjmebaipnpegaaDoor
