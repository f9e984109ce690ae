/-
  A map's update.
  What stands at a place: find, Find, May, Read.
  A value is put; Write.
  New: a dictionary of entries that may be, each at a place of its own.
-/
import Derived.Test.YtcdmldnaagiicaaDoorMade
import Derived.Test.YtcdmldnaagiicaaDoorTk9
namespace Go.Proofs.YtcdmldnaagiicaaDoor
open Go.RowKit

theorem ex_look {o : Oper} {a : Act} {w : World} (t : TypeId) (m x : Operand) (c : Bool) (ho : o.op = .lookup t m x c) (mv xv v : Value) (hm : a.eval m = mv) (hx : a.eval x = xv) (hr : (Instr.lookup t mv xv c).run Tryd.prog w = .ok v w) : (execOp a.eval o).run Tryd.prog w = .ok (.value v) w := by
  unfold execOp
  simp only [ho, hm, hx, Sem.run_bind, Sem.run_pure, Result.andThen_ok, hr]
theorem wp_upd_by {o : Oper} {a : Act} {w w' : World} {K : Act → World → Prop} {Q : Exit → Act → World → Prop} (t : TypeId) (m x y : Operand) (ho : o.op = .mapUpdate t m x y) (mv xv v : Value) (hm : a.eval m = mv) (hx : a.eval x = xv) (hy : a.eval y = v)
    (hr : (Instr.mapUpdate t mv xv v).run Tryd.prog w = .ok () w') (h : K (a.put o.dst undef) w') : o.wp Tryd.prog a w K Q := by
  unfold Oper.wp execOp
  simp only [ho, hm, hx, hy, Sem.run_bind, Sem.run_pure, Result.andThen_ok, hr]
  exact h
theorem idxP_none (l : Mp) (i s : Int) (v : Value) (k : Nat) (h : idxP l i s k = none) : putP l i s v = l ++ [(i, s, v)] := by
  induction l generalizing k with
  | nil => rfl
  | cons x l ih =>
    simp only [idxP] at h
    split at h
    · cases h
    · rename_i hq
      simp only [putP, if_neg hq, List.cons_append, ih _ h]
theorem idxP_some (l : Mp) (i s : Int) (v : Value) (k j : Nat) (u : Value) (h : idxP l i s k = some (j, u)) : ∃ n, j = k + n ∧ n < l.length ∧ putP l i s v = l.set n (i, s, v) ∧ l[n]? = some (i, s, u) := by
  induction l generalizing k with
  | nil => cases h
  | cons x l ih =>
    simp only [idxP] at h
    split at h
    · rename_i hq
      cases h
      simp only [Bool.and_eq_true, beq_iff_eq] at hq
      obtain ⟨x1, x2, x3⟩ := x
      dsimp only at hq
      obtain ⟨rfl, rfl⟩ := hq
      exact ⟨0, rfl, by simp, by simp [putP], rfl⟩
    · rename_i hq
      obtain ⟨n, h1, h2, h3, h4⟩ := ih _ h
      exact ⟨n + 1, by omega, by simp; omega, by simp only [putP, if_neg hq, List.set_cons_succ, h3], by simpa using h4⟩
theorem bits_same (i s : Int) : Instr.sameBits 10000 (plV i s) (plV i s) = true := by
  simp [Instr.sameBits]
theorem stays_place (i s : Int) (w : World) : (Instr.keyThatStays (plV i s) (plV i s)).run Tryd.prog w = .ok (plV i s) w := by
  unfold Instr.keyThatStays
  rw [if_pos (bits_same i s)]
  rfl
theorem kp_obj (w : World) (m : Nat) (o : Obj) : Kp [m] w { w with heap := w.heap.setIfInBounds m o } :=
  ⟨rfl, rfl, rfl, by simp, fun k _ hk => by simp at hk; simp [Ne.symm hk]⟩
theorem upd_run (w : World) (m : Nat) (l : Mp) (i s : Int) (v : Value) (h : IsM w m l) : ∃ w', (Instr.mapUpdate 56 (.map (some m)) (plV i s) v).run Tryd.prog w = .ok () w' ∧ IsM w' m (putP l i s v) ∧ Kp [m] w w' := by
  obtain ⟨es, c, hb, e, hs⟩ := h
  have hlt := lt_of_heap hb
  have hf := find_place i s w es.toList l e
  cases hq : idxP l i s 0 with
  | none =>
    rw [hq] at hf
    refine ⟨_, ?_, ⟨es.push ⟨plV i s, v, c⟩, c + 1, ?_, ?_, stm_push hs _ _⟩, kp_obj w m (.map (es.push ⟨plV i s, v, c⟩) (c + 1))⟩
    · simp [Instr.mapUpdate, run_underlying Tryd.underlying56, MapKept.run_getObj_map hb, check_place, hf, MapKept.run_setObj_map _ hb, Result.andThen]
    · simp [hlt]
    · rw [idxP_none l i s v 0 hq, Array.toList_push, List.map_append, e]
      simp
  | some y =>
    obtain ⟨j, u⟩ := y
    rw [hq] at hf
    obtain ⟨n, h1, h2, h3, h4⟩ := idxP_some l i s v 0 j u hq
    obtain rfl : j = n := by omega
    have hn : es.toList.length = l.length := by simpa using congrArg List.length e
    have hk : ((es[j]?).map (·.key)).getD (plV i s) = plV i s := by
      have := congrArg (fun q => q[j]?) e
      simp only [List.getElem?_map, h4, Option.map_some] at this
      rw [← Array.getElem?_toList]
      cases hz : es.toList[j]? with
      | none => rfl
      | some z =>
        rw [hz] at this
        simp only [Option.map_some, Option.some.injEq, Prod.mk.injEq] at this
        simp [this.1]
    refine ⟨_, ?_, ⟨es.modify j fun e => { e with key := plV i s, val := v }, c, ?_, ?_, stm_modify hs _ _ (fun _ => rfl)⟩, kp_obj w m (.map (es.modify j fun e => { e with key := plV i s, val := v }) c)⟩
    · simp [Instr.mapUpdate, run_underlying Tryd.underlying56, MapKept.run_getObj_map hb, check_place, hf, hk, stays_place, MapKept.run_setObj_map _ hb, Result.andThen]
    · simp [hlt]
    · rw [h3, Array.toList_modify]
      apply List.ext_getElem?
      intro q
      have eq := congrArg (fun z => z[q]?) e
      simp only [List.getElem?_map] at eq
      simp only [List.getElem?_map, List.getElem?_modify, List.getElem?_set]
      by_cases hqj : j = q
      · subst hqj
        have : j < es.toList.length := by omega
        simp [h2, List.getElem?_eq_getElem this]
      · simp only [if_neg hqj]
        simpa using eq
#print axioms upd_run
end Go.Proofs.YtcdmldnaagiicaaDoor
namespace Go.Proofs.YtcdmldnaagiicaaDoor
open Go.RowKit

set_option linter.unusedSimpArgs false in
set_option maxHeartbeats 4000000 in
set_option maxRecDepth 100000 in
theorem find_at (p m : Nat) (cg : Int) (lst : Mp) (i s : Int) (nm : ByteArray) (t rt : Int) (d : Option Addr) (ld cd : Nat) (l : Option Addr) (ll cl : Nat) (h : Option Addr) (lh ch : Nat) (tg gr : Int) (v : Option Addr) (lv cv : Nat) (w : World) (hp : w.heap[p]? = some (.cells #[.map (some m), .int .i64 cg] 58 (0, 0))) (hm : IsM w m lst) (hl : lookP lst i s = some (.agg (itC i s nm t rt d ld cd l ll cl h lh ch tg gr v lv cv))) :
    Calls Tryd.prog 27 #[.pointer (some ⟨p, 0, none⟩), plV i s] w fun e w' => e = .returned (.tuple #[.agg (itC i s nm t rt d ld cd l ll cl h lh ch tg gr v lv cv), .int .u32 0]) ∧ Below w.heap.size w w' := by
  have HP : Hid (w.heap[p]? = some (.cells #[.map (some m), .int .i64 cg] 58 (0, 0))) := hp
  have HM : Hid (IsM w m lst) := hm
  have HL : Hid (lookP lst i s = some (.agg (itC i s nm t rt d ld cd l ll cl h lh ch tg gr v lv cv))) := hl
  have lp : p < w.heap.size := lt_of_heap hp
  have lm : m < w.heap.size := hm.lt
  clear hp hm hl
  go_enter Tryd.func27, Tryd.ntmps27
  go_wp2_with fail
  refine wp_region_held_drew (S := fun x => Below w.heap.size w x ∧ x.heap[p]? = some (.cells #[.map (some m), .int .i64 cg] 58 (0, 0)) ∧ IsM x m lst ∧ x.heap[w.heap.size]? = some (.cells #[.int .u16 i, .int .u8 s] 33 (0, 0)) ∧ x.heap[w.heap.size + 1]? = some (.cells (itC 0 0 ⟨#[]⟩ 0 0 none 0 0 none 0 0 none 0 0 0 0 none 0 0) 62 (0, 0))) (by kernel_rfl) (⟨Below.drew (by repeat (first | exact Below.refl _ _ | apply Below.drew | apply Below.al)), ext11 (ext11 HP.out), (HM.out.next (by repeat (first | exact Below.refl _ _ | apply Below.drew | apply Below.al))), ext11 (at11 _ _ _ rfl), at11 _ _ _ (by simp)⟩) (fun hHeld => ?_)
  refine tk 0 (.pointer (some ⟨p, 0, none⟩)) rfl (.inl ⟨by rfl, ?_⟩) ?_
  · intro w9 hSw
    try dsimp only at hSw
    go_simp
    all_goals try decide
    all_goals try assumption
    all_goals try omega
  try simp only [Act.put, gA, gS, gZ, sA, sZ, sS]
  refine tk 1 (.pointer (some ⟨p, 0, none⟩)) rfl (.inl ⟨by rfl, ?_⟩) ?_
  · intro w9 hSw
    try dsimp only at hSw
    go_simp
    all_goals try decide
    all_goals try assumption
    all_goals try omega
  try simp only [Act.put, gA, gS, gZ, sA, sZ, sS]
  refine tk 2 (.pointer (some ⟨p, 0, none⟩)) rfl (.inl ⟨by rfl, ?_⟩) ?_
  · intro w9 hSw
    try dsimp only at hSw
    go_simp
    all_goals try decide
    all_goals try assumption
    all_goals try omega
  try simp only [Act.put, gA, gS, gZ, sA, sZ, sS]
  refine tk 3 (.map (some m)) rfl (.inl ⟨by rfl, ?_⟩) ?_
  · intro w9 hSw
    try dsimp only at hSw
    have c0 : w9.cell? ⟨p, 0, none⟩ = some (.map (some m)) := by rw [cell_of_row _ _ 0 _ _ _ hSw.2.1]; rfl
    go_simp
    all_goals try assumption
  try simp only [Act.put, gA, gS, gZ, sA, sZ, sS]
  refine tk 4 (plV i s) rfl (.inl ⟨by rfl, ?_⟩) ?_
  · intro w9 hSw
    try dsimp only at hSw
    exact ex_load11 33 (.tmp 3) rfl _ _ rfl (load_part 33 2 sizeP aggP _ (w.heap.size) 0 [.int .u16 i, .int .u8 s] _ hSw.2.2.2.1 (by simp))
  try simp only [Act.put, gA, gS, gZ, sA, sZ, sS]
  refine tk 5 (.tuple #[.agg (itC i s nm t rt d ld cd l ll cl h lh ch tg gr v lv cv), .bool true]) rfl (.inl ⟨by rfl, ?_⟩) ?_
  · intro w9 hSw
    try dsimp only at hSw
    exact ex_look 56 (.tmp 15) (.tmp 16) true rfl _ _ _ rfl rfl (look_ok _ m lst i s _ hSw.2.2.1 HL.out)
  try simp only [Act.put, gA, gS, gZ, sA, sZ, sS]
  refine tk 6 (.tuple #[.agg (itC i s nm t rt d ld cd l ll cl h lh ch tg gr v lv cv), .bool true]) rfl (.inl ⟨by rfl, ?_⟩) ?_
  · intro w9 hSw
    try dsimp only at hSw
    go_simp
    all_goals try decide
    all_goals try assumption
    all_goals try omega
  try simp only [Act.put, gA, gS, gZ, sA, sZ, sS]
  refine tk 7 (.agg (itC i s nm t rt d ld cd l ll cl h lh ch tg gr v lv cv)) rfl (.inl ⟨by rfl, ?_⟩) ?_
  · intro w9 hSw
    try dsimp only at hSw
    go_simp
    all_goals try decide
    all_goals try assumption
    all_goals try omega
  try simp only [Act.put, gA, gS, gZ, sA, sZ, sS]
  refine tk 8 (.bool true) rfl (.inl ⟨by rfl, ?_⟩) ?_
  · intro w9 hSw
    try dsimp only at hSw
    go_simp
    all_goals try decide
    all_goals try assumption
    all_goals try omega
  try simp only [Act.put, gA, gS, gZ, sA, sZ, sS]
  refine wpAnyH_ready (rs := [9]) (by kernel_rfl) (by simp) ?_
  refine AllReadyH.cons rfl (fun K' hK => ?_) AllReadyH.nil
  rw [if_pos (by rfl)]
  simp only [gA, gS, gZ]
  go_wp2_with fail
  refine hK.out _ _ (⟨Below.al hHeld.1 _, ext11 hHeld.2.1, hHeld.2.2.1.next (Below.al (Below.refl _ _) _), ext11 hHeld.2.2.2.1, ext11 hHeld.2.2.2.2⟩) (fun hHeld => ?_)
  clear hK K'
  try simp only [Act.put, gA, gS, gZ, sA, sZ, sS]
  refine wpAnyH_ready (rs := [10]) (by kernel_rfl) (by simp) ?_
  refine AllReadyH.cons rfl (fun K' hK => ?_) AllReadyH.nil
  rw [if_pos (by rfl)]
  simp only [gA, gS, gZ]
  refine wp_store_by 62 _ _ rfl ⟨w.heap.size + 1 + 1, 0, none⟩ _ rfl rfl (storeI _ _ _ i s nm t rt d ld cd l ll cl h lh ch tg gr v lv cv _ (at11 _ (.cells (itC 0 0 ⟨#[]⟩ 0 0 none 0 0 none 0 0 none 0 0 0 0 none 0 0) 62) _ (by simp)) rfl) ?_
  refine hK.out _ _ (⟨below_setRow hHeld.1 (by omega) _, (setRow_other _ _ _ _ (by omega)).trans hHeld.2.1, hHeld.2.2.1.kp (Kp.row (S := [w.heap.size + 1 + 1]) (Kp.refl _ _) _ _ (.inl (by simp))) (by simp; omega), (setRow_other _ _ _ _ (by omega)).trans hHeld.2.2.2.1, (setRow_other _ _ _ _ (by omega)).trans hHeld.2.2.2.2⟩) (fun hHeld => ?_)
  clear hK K'
  try simp only [Act.put, gA, gS, gZ, sA, sZ, sS]
  refine tk 11 (.bool true) rfl (.inl ⟨by rfl, ?_⟩) ?_
  · intro w9 hSw
    try dsimp only at hSw
    go_simp
    all_goals try decide
    all_goals try assumption
    all_goals try omega
  try simp only [Act.put, gA, gS, gZ, sA, sZ, sS]
  refine wpAnyH_done (by kernel_rfl) ?_ _
  obtain ⟨W4, HW4⟩ : ∃ W4, Hid ((((w.alloc (.cells #[.int .u16 i, .int .u8 s] 33)).alloc (.cells (itC 0 0 ⟨#[]⟩ 0 0 none 0 0 none 0 0 none 0 0 0 0 none 0 0) 62)).alloc (.cells (itC 0 0 ⟨#[]⟩ 0 0 none 0 0 none 0 0 none 0 0 0 0 none 0 0) 62)).drew.setRow (w.heap.size + 1 + 1) (itC i s nm t rt d ld cd l ll cl h lh ch tg gr v lv cv) = W4) := ⟨_, rfl⟩
  have B4 : Hid (Below w.heap.size w W4) := by show Below _ _ _; rw [← HW4.out]; exact hHeld.1
  have X4 : Hid (W4.heap[w.heap.size + 1 + 1]? = some (.cells (itC i s nm t rt d ld cd l ll cl h lh ch tg gr v lv cv) 62 (0, 0))) := by show _ = _; rw [← HW4.out]; exact setRow_heap _ _ _ _ _ _ (at11 _ (.cells (itC 0 0 ⟨#[]⟩ 0 0 none 0 0 none 0 0 none 0 0 0 0 none 0 0) 62) _ (by simp))
  have R4 : Hid (W4.heap[w.heap.size + 1]? = some (.cells (itC 0 0 ⟨#[]⟩ 0 0 none 0 0 none 0 0 none 0 0 0 0 none 0 0) 62 (0, 0))) := by show _ = _; rw [← HW4.out]; exact hHeld.2.2.2.2
  rw [show (((w.alloc _).alloc _).alloc _).drew.setRow (w.heap.size + 1 + 1) _ = W4 from HW4.out]
  clear hHeld HW4
  go_wp2_with (first | (refine wpList_load_by rfl 62 _ rfl ⟨w.heap.size + 1 + 1, 0, none⟩ _ rfl (loadI _ _ i s nm t rt d ld cd l ll cl h lh ch tg gr v lv cv _ X4.out) ?_) | (refine wpList_store_by rfl 62 _ _ rfl ⟨w.heap.size + 1, 0, none⟩ _ rfl rfl (storeI _ _ _ i s nm t rt d ld cd l ll cl h lh ch tg gr v lv cv _ R4.out rfl) ?_))
  have hcc := fun j => cell_of_row _ (w.heap.size + 1) j _ _ _ (setRow_heap _ _ _ (itC i s nm t rt d ld cd l ll cl h lh ch tg gr v lv cv) _ _ R4.out)
  refine bodyPost_ret (v := .tuple #[.agg (itC i s nm t rt d ld cd l ll cl h lh ch tg gr v lv cv), .int .u32 0]) ?_ rfl ⟨rfl, below_setRow B4.out (Nat.le_succ _) _⟩
  simp [results, Tryd.results27, go_sem, hcc]
#print axioms find_at

set_option linter.unusedSimpArgs false in
set_option maxHeartbeats 4000000 in
set_option maxRecDepth 100000 in
theorem may_at (p m : Nat) (cg : Int) (lst : Mp) (i s : Int) (nm : ByteArray) (t rt : Int) (d : Option Addr) (ld cd : Nat) (l : Option Addr) (ll cl : Nat) (h : Option Addr) (lh ch : Nat) (tg gr : Int) (v : Option Addr) (lv cv : Nat) (b : Option Addr) (lb cb : Nat) (zb zl zh : List Int) (w : World) (hp : w.heap[p]? = some (.cells #[.map (some m), .int .i64 cg] 58 (0, 0))) (hm : IsM w m lst) (hl : lookP lst i s = some (.agg (itC i s nm t rt d ld cd l ll cl h lh ch tg gr v lv cv))) (rb : SlOk w b lb cb zb) (rl : SlOk w l ll cl zl) (rh : SlOk w h lh ch zh) (hT : Ty.Tab64 w)
    (hr : (bits .and .u8 rt 2 != 0) = true) (hc : Ty.chkN t zb zl zh = 0) :
    Calls Tryd.prog 13 #[.pointer (some ⟨p, 0, none⟩), plV i s, .slice b lb cb] w fun e w' => e = .returned (.tuple #[.int .u8 tg, .int .u32 0]) ∧ Below w.heap.size w w' := by
  have HF : Hid (∀ W, Below w.heap.size w W → Calls Tryd.prog 27 #[.pointer (some ⟨p, 0, none⟩), plV i s] W fun e w' => e = .returned (.tuple #[.agg (itC i s nm t rt d ld cd l ll cl h lh ch tg gr v lv cv), .int .u32 0]) ∧ Below W.heap.size W w') := fun W hb => find_at p m cg lst i s nm t rt d ld cd l ll cl h lh ch tg gr v lv cv W (blk11 hb hp) (hm.next hb) hl
  have HH : Hid (∀ W, Calls Tryd.prog 28 #[.agg (itC i s nm t rt d ld cd l ll cl h lh ch tg gr v lv cv), .int .u8 2] W fun e w' => e = .returned (.bool true) ∧ Below W.heap.size W w') := fun W => by
    have := has_any i s nm t rt d ld cd l ll cl h lh ch tg gr v lv cv 2 W
    rw [hr] at this
    exact this
  have HC : Hid (∀ W, Below w.heap.size w W → Calls Tryd.prog 29 #[.agg (itC i s nm t rt d ld cd l ll cl h lh ch tg gr v lv cv), .slice b lb cb] W fun e w' => e = .returned (.int .u32 0) ∧ Below W.heap.size W w') := fun W hb => by
    have := icheck_any i s nm t rt d ld cd l ll cl h lh ch tg gr v lv cv b lb cb zb zl zh W (rb.next hb) (rl.next hb) (rh.next hb) (tab_next hT hb)
    rw [hc] at this
    exact this
  clear hp hm hl rb rl rh hT hr hc
  go_enter Tryd.func13, Tryd.ntmps13
  go_wp2_with fail
  refine (HF.out _ (by repeat (first | exact Below.refl _ _ | apply Below.drew | apply Below.al))).mono ?_
  rintro e w1 ⟨rfl, hb⟩
  have B1 : Hid (Below w.heap.size w w1) := Below.andThen (by repeat (first | exact Below.refl _ _ | apply Below.drew | apply Below.al)) hb
  clear hb
  go_wp2_with fail
  refine (HH.out _).mono ?_
  rintro e w2 ⟨rfl, hb⟩
  have B2 : Hid (Below w.heap.size w w2) := Below.andThen (Below.al B1.out _) hb
  have X2 : Hid (w2.heap[w1.heap.size]? = some (.cells (itC i s nm t rt d ld cd l ll cl h lh ch tg gr v lv cv) 62 (0, 0))) := blk11 hb (at11 _ _ _ rfl)
  have l2 := lt_of_heap X2.out
  clear hb
  go_wp2_with (refine wpList_load_by rfl 62 _ rfl ⟨w1.heap.size, 0, none⟩ _ rfl (loadI _ _ i s nm t rt d ld cd l ll cl h lh ch tg gr v lv cv _ X2.out) ?_)
  refine (HC.out _ B2.out).mono ?_
  rintro e w3 ⟨rfl, hb⟩
  have B3 : Hid (Below w.heap.size w w3) := Below.andThen B2.out hb
  have X3 : Hid (w3.heap[w1.heap.size]? = some (.cells (itC i s nm t rt d ld cd l ll cl h lh ch tg gr v lv cv) 62 (0, 0))) := blk11 hb X2.out
  have c8 : w3.cell? ⟨w1.heap.size, 8, none⟩ = some (.int .u8 tg) := by rw [cell_of_row _ _ 8 _ _ _ X3.out]; rfl
  clear hb
  go_wp2_with fail
  go_ret2
  exact ⟨rfl, B3.out⟩

set_option linter.unusedSimpArgs false in
set_option maxHeartbeats 4000000 in
set_option maxRecDepth 100000 in
theorem read_at (p m : Nat) (cg : Int) (lst : Mp) (i s : Int) (nm : ByteArray) (t rt : Int) (d : Option Addr) (ld cd : Nat) (l : Option Addr) (ll cl : Nat) (h : Option Addr) (lh ch : Nat) (tg gr : Int) (v : Option Addr) (lv cv : Nat) (zv : List Int) (w : World) (hp : w.heap[p]? = some (.cells #[.map (some m), .int .i64 cg] 58 (0, 0))) (hm : IsM w m lst) (hl : lookP lst i s = some (.agg (itC i s nm t rt d ld cd l ll cl h lh ch tg gr v lv cv))) (rv : SlOk w v lv cv zv) (hlv : lv ≤ 16777216) (hr : (bits .and .u8 rt 1 != 0) = true) :
    Calls Tryd.prog 22 #[.pointer (some ⟨p, 0, none⟩), plV i s] w fun e w' => (∃ a' cap', e = .returned (.tuple #[.slice a' lv cap', .int .u32 0]) ∧ Told w w' a' lv cap' zv) ∧ Below w.heap.size w w' := by
  have HF : Hid (∀ W, Below w.heap.size w W → Calls Tryd.prog 27 #[.pointer (some ⟨p, 0, none⟩), plV i s] W fun e w' => e = .returned (.tuple #[.agg (itC i s nm t rt d ld cd l ll cl h lh ch tg gr v lv cv), .int .u32 0]) ∧ Below W.heap.size W w') := fun W hb => find_at p m cg lst i s nm t rt d ld cd l ll cl h lh ch tg gr v lv cv W (blk11 hb hp) (hm.next hb) hl
  have HH : Hid (∀ W, Calls Tryd.prog 28 #[.agg (itC i s nm t rt d ld cd l ll cl h lh ch tg gr v lv cv), .int .u8 1] W fun e w' => e = .returned (.bool true) ∧ Below W.heap.size W w') := fun W => by
    have := has_any i s nm t rt d ld cd l ll cl h lh ch tg gr v lv cv 1 W
    rw [hr] at this
    exact this
  have HC : Hid (∀ W, Below w.heap.size w W → Calls Tryd.prog 18 #[.slice v lv cv] W fun e w' => (∃ a' cap', e = .returned (.slice a' lv cap') ∧ Told W w' a' lv cap' zv) ∧ Below W.heap.size W w') := fun W hb => clone8_any v lv cv zv W (rv.row.next hb) hlv
  clear hp hm hl rv hr
  go_enter Tryd.func22, Tryd.ntmps22
  go_wp2_with fail
  refine (HF.out _ (by repeat (first | exact Below.refl _ _ | apply Below.drew | apply Below.al))).mono ?_
  rintro e w1 ⟨rfl, hb⟩
  have B1 : Hid (Below w.heap.size w w1) := Below.andThen (by repeat (first | exact Below.refl _ _ | apply Below.drew | apply Below.al)) hb
  clear hb
  go_wp2_with fail
  refine (HH.out _).mono ?_
  rintro e w2 ⟨rfl, hb⟩
  have B2 : Hid (Below w.heap.size w w2) := Below.andThen (Below.al B1.out _) hb
  have X2 : Hid (w2.heap[w1.heap.size]? = some (.cells (itC i s nm t rt d ld cd l ll cl h lh ch tg gr v lv cv) 62 (0, 0))) := blk11 hb (at11 _ _ _ rfl)
  have l2 := lt_of_heap X2.out
  have c10 : w2.cell? ⟨w1.heap.size, 10, none⟩ = some (.slice v lv cv) := by rw [cell_of_row _ _ 10 _ _ _ X2.out]; rfl
  clear hb
  go_wp2_with fail
  refine (HC.out _ B2.out).mono ?_
  rintro e w3 ⟨⟨a', cap', rfl, ht⟩, hb⟩
  have T3 : Hid (Told w2 w3 a' lv cap' zv) := ht
  have N3 : Hid (Below w2.heap.size w2 w3) := hb
  clear hb ht
  go_wp2_with fail
  go_ret2
  exact ⟨⟨a', cap', rfl, T3.out.keep11 B2.out.size (fun _ _ _ => rfl)⟩, Below.andThen B2.out N3.out⟩

set_option linter.unusedSimpArgs false in
set_option maxHeartbeats 4000000 in
set_option maxRecDepth 100000 in
theorem findE_at (p m : Nat) (cg : Int) (lst : Mp) (i s : Int) (nm : ByteArray) (t rt : Int) (d : Option Addr) (ld cd : Nat) (l : Option Addr) (ll cl : Nat) (h : Option Addr) (lh ch : Nat) (tg gr : Int) (v : Option Addr) (lv cv : Nat) (zd zl zh : List Int) (w : World) (hp : w.heap[p]? = some (.cells #[.map (some m), .int .i64 cg] 58 (0, 0))) (hm : IsM w m lst) (hl : lookP lst i s = some (.agg (itC i s nm t rt d ld cd l ll cl h lh ch tg gr v lv cv))) (rd : SlOk w d ld cd zd) (rl : SlOk w l ll cl zl) (rh : SlOk w h lh ch zh) (h1 : ld ≤ 16777216) (h2 : ll ≤ 16777216) (h3 : lh ≤ 16777216) :
    Calls Tryd.prog 36 #[.pointer (some ⟨p, 0, none⟩), plV i s] w fun e w' => (∃ a1 c1 a2 c2 a3 c3, e = .returned (.tuple #[.agg (enC i s nm t rt a1 ld c1 a2 ll c2 a3 lh c3 tg gr), .int .u32 0])) ∧ Below w.heap.size w w' := by
  have HF : Hid (∀ W, Below w.heap.size w W → Calls Tryd.prog 27 #[.pointer (some ⟨p, 0, none⟩), plV i s] W fun e w' => e = .returned (.tuple #[.agg (itC i s nm t rt d ld cd l ll cl h lh ch tg gr v lv cv), .int .u32 0]) ∧ Below W.heap.size W w') := fun W hb => find_at p m cg lst i s nm t rt d ld cd l ll cl h lh ch tg gr v lv cv W (blk11 hb hp) (hm.next hb) hl
  have HC : Hid (∀ W, Below w.heap.size w W → Calls Tryd.prog 17 #[.agg (enC i s nm t rt d ld cd l ll cl h lh ch tg gr)] W (CopyPost i s nm t rt ld ll lh tg gr zd zl zh W)) := fun W hb => copyOf_any i s nm t rt d ld cd l ll cl h lh ch tg gr zd zl zh W (rd.next hb) (rl.next hb) (rh.next hb) h1 h2 h3
  clear hp hm hl rd rl rh h1 h2 h3
  go_enter Tryd.func36, Tryd.ntmps36
  go_wp2_with fail
  refine (HF.out _ (by repeat (first | exact Below.refl _ _ | apply Below.drew | apply Below.al))).mono ?_
  rintro e w1 ⟨rfl, hb⟩
  have B1 : Hid (Below w.heap.size w w1) := Below.andThen (by repeat (first | exact Below.refl _ _ | apply Below.drew | apply Below.al)) hb
  have R1 : Hid (w1.heap[w.heap.size + 1]? = some (.cells (enC 0 0 ⟨#[]⟩ 0 0 none 0 0 none 0 0 none 0 0 0 0) 53 (0, 0))) := blk11 hb (at11 _ _ _ (by simp))
  have lr1 := lt_of_heap R1.out
  clear hb
  go_wp2_with (refine wpList_load_by rfl 53 _ rfl ⟨w1.heap.size, 0, none⟩ (.agg (enC i s nm t rt d ld cd l ll cl h lh ch tg gr)) rfl (load_part 53 10 sizeE aggE _ w1.heap.size 0 [.int .u16 i, .int .u8 s, .string nm, .int .u8 t, .int .u8 rt, .slice d ld cd, .slice l ll cl, .slice h lh ch, .int .u8 tg, .int .u8 gr, .slice v lv cv] _ (at11 _ _ _ rfl) (by simp)) ?_)
  refine (HC.out _ (Below.al B1.out _)).mono ?_
  rintro e w2 ⟨a1, c1, a2, c2, a3, c3, rfl, _, _, _, hb⟩
  have B2 : Hid (Below w.heap.size w w2) := Below.andThen (Below.al B1.out _) hb
  have R2 : Hid (w2.heap[w.heap.size + 1]? = some (.cells (enC 0 0 ⟨#[]⟩ 0 0 none 0 0 none 0 0 none 0 0 0 0) 53 (0, 0))) := blk11 hb (ext11 R1.out)
  have lr2 := lt_of_heap R2.out
  clear hb
  go_wp2_with (refine wpList_store_by rfl 53 _ _ rfl ⟨w.heap.size + 1, 0, none⟩ _ rfl rfl (storeE _ _ _ i s nm t rt a1 ld c1 a2 ll c2 a3 lh c3 tg gr _ R2.out rfl) ?_)
  have hcc := fun j => cell_of_row _ (w.heap.size + 1) j _ _ _ (setRow_heap _ _ _ (enC i s nm t rt a1 ld c1 a2 ll c2 a3 lh c3 tg gr) _ _ R2.out)
  refine bodyPost_ret (v := .tuple #[.agg (enC i s nm t rt a1 ld c1 a2 ll c2 a3 lh c3 tg gr), .int .u32 0]) ?_ rfl ⟨⟨a1, c1, a2, c2, a3, c3, rfl⟩, below_setRow B2.out (Nat.le_succ _) _⟩
  simp [results, Tryd.results36, go_sem, hcc]
end Go.Proofs.YtcdmldnaagiicaaDoor
namespace Go.Proofs.YtcdmldnaagiicaaDoor
open Go.RowKit

/-- A value was put. -/
def PutPost (i s : Int) (nm : ByteArray) (t rt : Int) (d : Option Addr) (ld cd : Nat) (l : Option Addr) (ll cl : Nat) (h : Option Addr) (lh ch : Nat) (tg gr : Int) (p m : Nat) (cg : Int) (lst : Mp) (lb : Nat) (zb : List Int) (w w' : World) : Prop :=
  ∃ a' c', Kp [p, m] w w' ∧ w'.heap[p]? = some (.cells #[.map (some m), .int .i64 (cg + 1)] 58 (0, 0)) ∧ IsM w' m (putP lst i s (.agg (itC i s nm t rt d ld cd l ll cl h lh ch tg gr a' lb c'))) ∧ Told w w' a' lb c' zb
set_option linter.unusedSimpArgs false in
set_option maxHeartbeats 4000000 in
set_option maxRecDepth 100000 in
theorem put_at (p m : Nat) (cg : Int) (lst : Mp) (i s : Int) (nm : ByteArray) (t rt : Int) (d : Option Addr) (ld cd : Nat) (l : Option Addr) (ll cl : Nat) (h : Option Addr) (lh ch : Nat) (tg gr : Int) (v : Option Addr) (lv cv : Nat) (b : Option Addr) (lb cb : Nat) (zb : List Int) (w : World) (hp : w.heap[p]? = some (.cells #[.map (some m), .int .i64 cg] 58 (0, 0))) (hm : IsM w m lst) (hl : lookP lst i s = some (.agg (itC i s nm t rt d ld cd l ll cl h lh ch tg gr v lv cv))) (rb : SlOk w b lb cb zb) (hlb : lb ≤ 16777216) (hc0 : 0 ≤ cg) (hc1 : cg < 4611686018427387904) (hne : p ≠ m) :
    Calls Tryd.prog 20 #[.pointer (some ⟨p, 0, none⟩), plV i s, .slice b lb cb] w fun e w' => e = .returned (.tuple #[]) ∧ PutPost i s nm t rt d ld cd l ll cl h lh ch tg gr p m cg lst lb zb w w' := by
  have HP : Hid (w.heap[p]? = some (.cells #[.map (some m), .int .i64 cg] 58 (0, 0))) := hp
  have HM : Hid (IsM w m lst) := hm
  have HL : Hid (lookP lst i s = some (.agg (itC i s nm t rt d ld cd l ll cl h lh ch tg gr v lv cv))) := hl
  have HC : Hid (∀ W, Below w.heap.size w W → Calls Tryd.prog 18 #[.slice b lb cb] W fun e w' => (∃ a' cap', e = .returned (.slice a' lb cap') ∧ Told W w' a' lb cap' zb) ∧ Below W.heap.size W w') := fun W hb => clone8_any b lb cb zb W (rb.row.next hb) hlb
  have lp : p < w.heap.size := lt_of_heap hp
  have lm : m < w.heap.size := hm.lt
  have hw : IntKind.i64.wrap (cg + 1) = cg + 1 := by simp [IntKind.wrap, IntKind.bits, IntKind.signed]; omega
  clear hp hm hl rb hlb
  go_enter Tryd.func20, Tryd.ntmps20
  go_wp2_with fail
  refine wp_region_held_drew (S := fun x => Below w.heap.size w x ∧ x.heap[p]? = some (.cells #[.map (some m), .int .i64 cg] 58 (0, 0)) ∧ IsM x m lst ∧ x.heap[w.heap.size]? = some (.cells #[.int .u16 i, .int .u8 s] 33 (0, 0))) (by kernel_rfl) (⟨Below.drew (by repeat (first | exact Below.refl _ _ | apply Below.drew | apply Below.al)), ext11 HP.out, (HM.out.next (by repeat (first | exact Below.refl _ _ | apply Below.drew | apply Below.al))), at11 _ _ _ rfl⟩) (fun hHeld => ?_)
  refine tk 0 (.pointer (some ⟨p, 0, none⟩)) rfl (.inl ⟨by rfl, ?_⟩) ?_
  · intro w9 hSw
    try dsimp only at hSw
    go_simp
    all_goals try decide
    all_goals try assumption
    all_goals try omega
  try simp only [Act.put, gA, gS, gZ, sA, sZ, sS]
  refine tk 1 (.pointer (some ⟨p, 0, none⟩)) rfl (.inl ⟨by rfl, ?_⟩) ?_
  · intro w9 hSw
    try dsimp only at hSw
    go_simp
    all_goals try decide
    all_goals try assumption
    all_goals try omega
  try simp only [Act.put, gA, gS, gZ, sA, sZ, sS]
  refine tk 2 (.pointer (some ⟨p, 0, none⟩)) rfl (.inl ⟨by rfl, ?_⟩) ?_
  · intro w9 hSw
    try dsimp only at hSw
    go_simp
    all_goals try decide
    all_goals try assumption
    all_goals try omega
  try simp only [Act.put, gA, gS, gZ, sA, sZ, sS]
  refine tk 3 (.map (some m)) rfl (.inl ⟨by rfl, ?_⟩) ?_
  · intro w9 hSw
    try dsimp only at hSw
    have c0 : w9.cell? ⟨p, 0, none⟩ = some (.map (some m)) := by rw [cell_of_row _ _ 0 _ _ _ hSw.2.1]; rfl
    go_simp
    all_goals try assumption
  try simp only [Act.put, gA, gS, gZ, sA, sZ, sS]
  refine tk 4 (plV i s) rfl (.inl ⟨by rfl, ?_⟩) ?_
  · intro w9 hSw
    try dsimp only at hSw
    exact ex_load11 33 (.tmp 4) rfl _ _ rfl (load_part 33 2 sizeP aggP _ (w.heap.size) 0 [.int .u16 i, .int .u8 s] _ hSw.2.2.2 (by simp))
  try simp only [Act.put, gA, gS, gZ, sA, sZ, sS]
  refine tk 5 (.agg (itC i s nm t rt d ld cd l ll cl h lh ch tg gr v lv cv)) rfl (.inl ⟨by rfl, ?_⟩) ?_
  · intro w9 hSw
    try dsimp only at hSw
    exact ex_look 56 (.tmp 10) (.tmp 11) false rfl _ _ _ rfl rfl (look_one _ m lst i s _ hSw.2.2.1 HL.out)
  try simp only [Act.put, gA, gS, gZ, sA, sZ, sS]
  refine wpAnyH_ready (rs := [6]) (by kernel_rfl) (by simp) ?_
  refine AllReadyH.cons rfl (fun K' hK => ?_) AllReadyH.nil
  rw [if_pos (by rfl)]
  simp only [gA, gS, gZ]
  go_wp2_with fail
  refine hK.out _ _ (⟨Below.al hHeld.1 _, ext11 hHeld.2.1, hHeld.2.2.1.next (Below.al (Below.refl _ _) _), ext11 hHeld.2.2.2⟩) (fun hHeld => ?_)
  clear hK K'
  try simp only [Act.put, gA, gS, gZ, sA, sZ, sS]
  refine wpAnyH_ready (rs := [7]) (by kernel_rfl) (by simp) ?_
  refine AllReadyH.cons rfl (fun K' hK => ?_) AllReadyH.nil
  rw [if_pos (by rfl)]
  simp only [gA, gS, gZ]
  refine wp_store_by 62 _ _ rfl ⟨w.heap.size + 1, 0, none⟩ _ rfl rfl (storeI _ _ _ i s nm t rt d ld cd l ll cl h lh ch tg gr v lv cv _ (at11 _ (.cells (itC 0 0 ⟨#[]⟩ 0 0 none 0 0 none 0 0 none 0 0 0 0 none 0 0) 62) _ (by simp)) rfl) ?_
  refine hK.out _ _ (⟨below_setRow hHeld.1 (by omega) _, (setRow_other _ _ _ _ (by omega)).trans hHeld.2.1, hHeld.2.2.1.kp (Kp.row (S := [w.heap.size + 1]) (Kp.refl _ _) _ _ (.inl (by simp))) (by simp; omega), (setRow_other _ _ _ _ (by omega)).trans hHeld.2.2.2⟩) (fun hHeld => ?_)
  clear hK K'
  try simp only [Act.put, gA, gS, gZ, sA, sZ, sS]
  refine wpAnyH_done (by kernel_rfl) ?_ _
  obtain ⟨W1, HW1⟩ : ∃ W1, Hid (((w.alloc (.cells #[.int .u16 i, .int .u8 s] 33)).alloc (.cells (itC 0 0 ⟨#[]⟩ 0 0 none 0 0 none 0 0 none 0 0 0 0 none 0 0) 62)).drew.setRow (w.heap.size + 1) (itC i s nm t rt d ld cd l ll cl h lh ch tg gr v lv cv) = W1) := ⟨_, rfl⟩
  have B1 : Hid (Below w.heap.size w W1) := by show Below _ _ _; rw [← HW1.out]; exact hHeld.1
  have HP1 : Hid (W1.heap[p]? = some (.cells #[.map (some m), .int .i64 cg] 58 (0, 0))) := by show _ = _; rw [← HW1.out]; exact hHeld.2.1
  have M1 : Hid (IsM W1 m lst) := by show IsM _ _ _; rw [← HW1.out]; exact hHeld.2.2.1
  have L1 : Hid (W1.heap[w.heap.size]? = some (.cells #[.int .u16 i, .int .u8 s] 33 (0, 0))) := by show _ = _; rw [← HW1.out]; exact hHeld.2.2.2
  have G1 : Hid (W1.heap[w.heap.size + 1]? = some (.cells (itC i s nm t rt d ld cd l ll cl h lh ch tg gr v lv cv) 62 (0, 0))) := by show _ = _; rw [← HW1.out]; exact setRow_heap _ _ _ _ _ _ (at11 _ (.cells (itC 0 0 ⟨#[]⟩ 0 0 none 0 0 none 0 0 none 0 0 0 0 none 0 0) 62) _ (by simp))
  rw [show ((w.alloc _).alloc _).drew.setRow (w.heap.size + 1) _ = W1 from HW1.out]
  clear hHeld HW1
  have lg1 : Hid (w.heap.size + 1 < W1.heap.size) := lt_of_heap G1.out
  go_wp2_with fail
  refine (HC.out _ B1.out).mono ?_
  rintro e w2 ⟨⟨a', c', rfl, ht⟩, hb⟩
  have T2 : Hid (Told W1 w2 a' lb c' zb) := ht
  have N2 : Hid (Below W1.heap.size W1 w2) := hb
  have G2 : Hid (w2.heap[w.heap.size + 1]? = some (.cells (itC i s nm t rt d ld cd l ll cl h lh ch tg gr v lv cv) 62 (0, 0))) := blk11 hb G1.out
  clear ht hb
  go_wp2_with (refine wpList_store_by rfl 34 _ _ rfl ⟨w.heap.size + 1, 10, none⟩ _ rfl rfl (store_sl _ sizeSl _ (w.heap.size + 1) 10 a' lb c' _ _ G2.out (by simp)) ?_)
  obtain ⟨W3, HW3⟩ : ∃ W3, Hid (w2.setRow (w.heap.size + 1) (itC i s nm t rt d ld cd l ll cl h lh ch tg gr a' lb c') = W3) := ⟨_, rfl⟩
  have B3 : Hid (Below w.heap.size w W3) := by show Below _ _ _; rw [← HW3.out]; exact below_setRow (Below.andThen B1.out N2.out) (Nat.le_succ _) _
  have HP3 : Hid (W3.heap[p]? = some (.cells #[.map (some m), .int .i64 cg] 58 (0, 0))) := by show _ = _; rw [← HW3.out]; exact (setRow_other _ _ _ _ (by omega)).trans (blk11 N2.out HP1.out)
  have M3 : Hid (IsM W3 m lst) := by show IsM _ _ _; rw [← HW3.out]; exact (M1.out.next N2.out).kp (Kp.row (S := [w.heap.size + 1]) (Kp.refl _ _) _ _ (.inl (by simp))) (by simp; omega)
  have L3 : Hid (W3.heap[w.heap.size]? = some (.cells #[.int .u16 i, .int .u8 s] 33 (0, 0))) := by show _ = _; rw [← HW3.out]; exact (setRow_other _ _ _ _ (by omega)).trans (blk11 N2.out L1.out)
  have G3 : Hid (W3.heap[w.heap.size + 1]? = some (.cells (itC i s nm t rt d ld cd l ll cl h lh ch tg gr a' lb c') 62 (0, 0))) := by show _ = _; rw [← HW3.out]; exact setRow_heap _ _ _ _ _ _ G2.out
  have T3 : Hid (Told w W3 a' lb c' zb) := by
    show Told _ _ _ _ _ _
    rw [← HW3.out]
    exact T2.out.keep11 B1.out.size (fun g h1 _ => setRow_other _ _ _ _ (by have := lg1.out; omega))
  rw [show w2.setRow (w.heap.size + 1) ((itC i s nm t rt d ld cd l ll cl h lh ch tg gr v lv cv).setIfInBounds 10 (.slice a' lb c')) = W3 from HW3.out]
  clear HW3
  try simp only [Act.put]
  try go_wp2_with fail
  refine wp_region_held_drew (S := fun x => Kp [m] W3 x) (by kernel_rfl) (Kp.drew (Kp.refl _ _)) (fun hHeld => ?_)
  refine tk 0 (.pointer (some ⟨p, 0, none⟩)) rfl (.inl ⟨by rfl, ?_⟩) ?_
  · intro w9 hSw
    try dsimp only at hSw
    go_simp
    all_goals try decide
    all_goals try assumption
    all_goals try omega
  try simp only [Act.put, gA, gS, gZ, sA, sZ, sS]
  refine tk 1 (.pointer (some ⟨p, 0, none⟩)) rfl (.inl ⟨by rfl, ?_⟩) ?_
  · intro w9 hSw
    try dsimp only at hSw
    go_simp
    all_goals try decide
    all_goals try assumption
    all_goals try omega
  try simp only [Act.put, gA, gS, gZ, sA, sZ, sS]
  refine tk 2 (.pointer (some ⟨p, 0, none⟩)) rfl (.inl ⟨by rfl, ?_⟩) ?_
  · intro w9 hSw
    try dsimp only at hSw
    go_simp
    all_goals try decide
    all_goals try assumption
    all_goals try omega
  try simp only [Act.put, gA, gS, gZ, sA, sZ, sS]
  refine tk 3 (.map (some m)) rfl (.inl ⟨by rfl, ?_⟩) ?_
  · intro w9 hSw
    try dsimp only at hSw
    have c0 : w9.cell? ⟨p, 0, none⟩ = some (.map (some m)) := by rw [cell_of_row _ _ 0 _ _ _ (hSw.at (by simp; omega) HP3.out)]; rfl
    go_simp
    all_goals try assumption
  try simp only [Act.put, gA, gS, gZ, sA, sZ, sS]
  refine tk 4 (plV i s) rfl (.inl ⟨by rfl, ?_⟩) ?_
  · intro w9 hSw
    try dsimp only at hSw
    exact ex_load11 33 (.tmp 4) rfl _ _ rfl (load_part 33 2 sizeP aggP _ (w.heap.size) 0 [.int .u16 i, .int .u8 s] _ (hSw.at (by simp; omega) L3.out) (by simp))
  try simp only [Act.put, gA, gS, gZ, sA, sZ, sS]
  refine tk 5 (.agg (itC i s nm t rt d ld cd l ll cl h lh ch tg gr a' lb c')) rfl (.inl ⟨by rfl, ?_⟩) ?_
  · intro w9 hSw
    try dsimp only at hSw
    exact ex_load11 62 (.tmp 6) rfl _ _ rfl (loadI _ _ i s nm t rt d ld cd l ll cl h lh ch tg gr a' lb c' _ (hSw.at (by simp; omega) G3.out))
  try simp only [Act.put, gA, gS, gZ, sA, sZ, sS]
  refine wpAnyH_ready (rs := [6]) (by kernel_rfl) (by simp) ?_
  refine AllReadyH.cons rfl (fun K' hK => ?_) AllReadyH.nil
  rw [if_pos (by rfl)]
  simp only [gA, gS, gZ]
  obtain ⟨w4, hrun, hM4, hK4⟩ := upd_run W3.drew m lst i s (.agg (itC i s nm t rt d ld cd l ll cl h lh ch tg gr a' lb c')) M3.out
  have M4 : Hid (IsM w4 m (putP lst i s (.agg (itC i s nm t rt d ld cd l ll cl h lh ch tg gr a' lb c')))) := hM4
  have K4 : Hid (Kp [m] W3 w4) := (Kp.drew (Kp.refl _ _)).trans hK4
  refine wp_upd_by 56 _ _ _ rfl _ _ _ rfl rfl rfl hrun ?_
  refine hK.out _ _ (K4.out) (fun hHeld => ?_)
  clear hK K'
  try simp only [Act.put, gA, gS, gZ, sA, sZ, sS]
  refine wpAnyH_done (by kernel_rfl) ?_ _
  have HP4 : Hid (w4.heap[p]? = some (.cells #[.map (some m), .int .i64 cg] 58 (0, 0))) := K4.out.at (by simpa using hne) HP3.out
  have c1 : w4.cell? ⟨p, 1, none⟩ = some (.int .i64 cg) := by rw [cell_of_row _ _ 1 _ _ _ HP4.out]; rfl
  have z1 : w4.frozen? ⟨p, 1, none⟩ = false := froz11 _ p 1 _ _ HP4.out
  clear hHeld
  go_wp2_with fail
  go_end0
  have K5 : Kp [p, m] w (w4.setCell ⟨p, 1, none⟩ (.int .i64 (cg + 1))) := Kp.set ((Kp.of B3.out).trans (K4.out.more (by simp))) _ _ (.inl (by simp))
  refine ⟨rfl, a', c', K5, heap_setCell_same _ _ _ _ _ _ HP4.out, M4.out.kp (Kp.set (S := [p]) (Kp.refl _ _) _ _ (.inl (by simp))) (by simpa using Ne.symm hne), T3.out.keep11 (Nat.le_refl _) (fun g h1 h2 => ?_)⟩
  rw [heap_setCell_other _ _ _ _ (by show g ≠ p; omega), K4.out.block g h2 (by simp; omega)]
#print axioms put_at

set_option linter.unusedSimpArgs false in
set_option maxHeartbeats 4000000 in
set_option maxRecDepth 100000 in
theorem write_at (p m : Nat) (cg : Int) (lst : Mp) (i s : Int) (nm : ByteArray) (t rt : Int) (d : Option Addr) (ld cd : Nat) (l : Option Addr) (ll cl : Nat) (h : Option Addr) (lh ch : Nat) (tg gr : Int) (v : Option Addr) (lv cv : Nat) (b : Option Addr) (lb cb : Nat) (zb zl zh : List Int) (w : World) (hp : w.heap[p]? = some (.cells #[.map (some m), .int .i64 cg] 58 (0, 0))) (hm : IsM w m lst) (hl : lookP lst i s = some (.agg (itC i s nm t rt d ld cd l ll cl h lh ch tg gr v lv cv))) (rb : SlOk w b lb cb zb) (rl : SlOk w l ll cl zl) (rh : SlOk w h lh ch zh) (hT : Ty.Tab64 w)
    (hr : (bits .and .u8 rt 2 != 0) = true) (hc : Ty.chkN t zb zl zh = 0) (hlb : lb ≤ 16777216) (hc0 : 0 ≤ cg) (hc1 : cg < 4611686018427387904) (hne : p ≠ m) :
    Calls Tryd.prog 7 #[.pointer (some ⟨p, 0, none⟩), plV i s, .slice b lb cb] w fun e w' => e = .returned (.int .u32 0) ∧ PutPost i s nm t rt d ld cd l ll cl h lh ch tg gr p m cg lst lb zb w w' := by
  have HM : Hid (∀ W, Below w.heap.size w W → Calls Tryd.prog 13 #[.pointer (some ⟨p, 0, none⟩), plV i s, .slice b lb cb] W fun e w' => e = .returned (.tuple #[.int .u8 tg, .int .u32 0]) ∧ Below W.heap.size W w') := fun W hb => may_at p m cg lst i s nm t rt d ld cd l ll cl h lh ch tg gr v lv cv b lb cb zb zl zh W (blk11 hb hp) (hm.next hb) hl (rb.next hb) (rl.next hb) (rh.next hb) (tab_next hT hb) hr hc
  have HP : Hid (∀ W, Below w.heap.size w W → Calls Tryd.prog 20 #[.pointer (some ⟨p, 0, none⟩), plV i s, .slice b lb cb] W fun e w' => e = .returned (.tuple #[]) ∧ PutPost i s nm t rt d ld cd l ll cl h lh ch tg gr p m cg lst lb zb W w') := fun W hb => put_at p m cg lst i s nm t rt d ld cd l ll cl h lh ch tg gr v lv cv b lb cb zb W (blk11 hb hp) (hm.next hb) hl (rb.next hb) hlb hc0 hc1 hne
  clear hp hm hl rb rl rh hT hr hc hlb hc0 hc1 hne
  go_enter Tryd.func7, Tryd.ntmps7
  go_wp2_with fail
  refine (HM.out _ (by repeat (first | exact Below.refl _ _ | apply Below.drew | apply Below.al))).mono ?_
  rintro e w1 ⟨rfl, hb⟩
  have B1 : Hid (Below w.heap.size w w1) := Below.andThen (by repeat (first | exact Below.refl _ _ | apply Below.drew | apply Below.al)) hb
  have L1 : Hid (w1.heap[w.heap.size]? = some (.cells #[.int .u16 i, .int .u8 s] 33 (0, 0))) := blk11 hb (at11 _ _ _ rfl)
  have l0 : w1.cell? ⟨w.heap.size, 0, none⟩ = some (.int .u16 i) := by rw [cell_of_row _ _ 0 _ _ _ L1.out]; rfl
  have l1 : w1.cell? ⟨w.heap.size, 1, none⟩ = some (.int .u8 s) := by rw [cell_of_row _ _ 1 _ _ _ L1.out]; rfl
  clear hb
  go_wp2_with fail
  refine (HP.out _ B1.out).mono ?_
  rintro e w2 ⟨rfl, a', c', k1, k2, k3, k4⟩
  have HK : Hid (PutPost i s nm t rt d ld cd l ll cl h lh ch tg gr p m cg lst lb zb w w2) := ⟨a', c', (Kp.of B1.out).trans k1, k2, k3, k4.keep11 B1.out.size (fun _ _ _ => rfl)⟩
  clear k1 k2 k3 k4
  go_wp2_with fail
  go_ret
  exact ⟨rfl, HK.out⟩
#print axioms write_at
end Go.Proofs.YtcdmldnaagiicaaDoor
namespace Go.Proofs.YtcdmldnaagiicaaDoor
open Go.RowKit

/-- An entry that came in. -/
structure Em where
  i : Int
  s : Int
  nm : ByteArray
  t : Int
  rt : Int
  d : Option Addr
  ld : Nat
  cd : Nat
  l : Option Addr
  ll : Nat
  cl : Nat
  h : Option Addr
  lh : Nat
  ch : Nat
  tg : Int
  gr : Int
  zd : List Int
  zl : List Int
  zh : List Int
/-- It may be one. -/
structure EmOk (w : World) (e : Em) : Prop where
  rd : SlOk w e.d e.ld e.cd e.zd
  rl : SlOk w e.l e.ll e.cl e.zl
  rh : SlOk w e.h e.lh e.ch e.zh
  b1 : e.ld ≤ 16777216
  b2 : e.ll ≤ 16777216
  b3 : e.lh ≤ 16777216
  hk : Ty.Pl.kindN e.t ≠ 0
  hr : e.rt ≤ 15
  hg : e.gr ≤ 16
  hn : e.nm.size ≤ 100
  hL : boundB e.t e.zl = true
  hH : boundB e.t e.zh = true
  hc : Ty.chkN e.t (firstL e.t e.zd) e.zl e.zh = 0
/-- Where the entries lie. -/
def EmAt (w : World) (eb k : Nat) (e : Em) : Prop := w.cell? ⟨eb, k * 10, none⟩ = some (.int .u16 e.i) ∧ w.cell? ⟨eb, k * 10 + 1, none⟩ = some (.int .u8 e.s) ∧ w.cell? ⟨eb, k * 10 + 2, none⟩ = some (.string e.nm) ∧ w.cell? ⟨eb, k * 10 + 3, none⟩ = some (.int .u8 e.t) ∧ w.cell? ⟨eb, k * 10 + 4, none⟩ = some (.int .u8 e.rt) ∧ w.cell? ⟨eb, k * 10 + 5, none⟩ = some (.slice e.d e.ld e.cd) ∧ w.cell? ⟨eb, k * 10 + 6, none⟩ = some (.slice e.l e.ll e.cl) ∧ w.cell? ⟨eb, k * 10 + 7, none⟩ = some (.slice e.h e.lh e.ch) ∧ w.cell? ⟨eb, k * 10 + 8, none⟩ = some (.int .u8 e.tg) ∧ w.cell? ⟨eb, k * 10 + 9, none⟩ = some (.int .u8 e.gr)
/-- What was made of an entry: rows of its own, from a block on. -/
def Kept (w : World) (lo : Nat) (a : Option Addr) (len cap : Nat) (zs : List Int) : Prop := SlOk w a len cap zs ∧ (0 < len → ∀ b off, a = some ⟨b, off, none⟩ → lo ≤ b)
theorem Row.kps {w w' : World} {S : List Nat} {a : Option Addr} {len : Nat} {zs : List Int} (h : Row w a len zs) (k : Kp S w w') (hne : 0 < len → ∀ b off, a = some ⟨b, off, none⟩ → b ∉ S) : Row w' a len zs where
  size := h.size
  oct := h.oct
  at_ := fun hl => by
    obtain ⟨b, off, e, hc⟩ := h.at_ hl
    refine ⟨b, off, e, fun i hi => ?_⟩
    have hb := h.old hl b off e
    have := k.block b hb (hne hl b off e)
    rw [← hc i hi]
    simp only [World.cell?, this]
theorem Kept.kp {w w' : World} {lo : Nat} {S : List Nat} {a : Option Addr} {len cap : Nat} {zs : List Int} (h : Kept w lo a len cap zs) (k : Kp S w w') (hS : ∀ b ∈ S, b < lo ∨ w.heap.size ≤ b) : Kept w' lo a len cap zs :=
  ⟨⟨h.1.row.kps k (fun hl b off e hb => by have h1 := h.2 hl b off e; have h2 := h.1.row.old hl b off e; rcases hS b hb with h3 | h3 <;> omega), h.1.le, h.1.max⟩, h.2⟩
theorem Told.kept {w w' : World} {lo : Nat} {a : Option Addr} {len cap : Nat} {zs : List Int} (h : Told w w' a len cap zs) (hlo : lo ≤ w.heap.size) : Kept w' lo a len cap zs :=
  ⟨h.sl, fun hl b off e => by obtain ⟨g, e', hg, _⟩ := h.own hl; rw [e] at e'; cases e'; omega⟩
/-- What stands in the map, entry by entry. -/
def Built (w : World) (lo : Nat) (es : List Em) (lst : Mp) : Prop := lst.length = es.length ∧ ∀ (k : Nat) (e : Em), es[k]? = some e →
  ∃ a1 c1 a2 c2 a3 c3 v lv cv, lst[k]? = some (e.i, e.s, .agg (itC e.i e.s e.nm e.t e.rt a1 e.ld c1 a2 e.ll c2 a3 e.lh c3 e.tg e.gr v lv cv)) ∧ Kept w lo a1 e.ld c1 e.zd ∧ Kept w lo a2 e.ll c2 e.zl ∧ Kept w lo a3 e.lh c3 e.zh ∧ Kept w lo v lv cv (firstL e.t e.zd)
theorem Built.kp {w w' : World} {lo : Nat} {S : List Nat} {es : List Em} {lst : Mp} (h : Built w lo es lst) (k : Kp S w w') (hS : ∀ b ∈ S, b < lo ∨ w.heap.size ≤ b) : Built w' lo es lst :=
  ⟨h.1, fun q e he => by
    obtain ⟨a1, c1, a2, c2, a3, c3, v, lv, cv, g, k1, k2, k3, k4⟩ := h.2 q e he
    exact ⟨a1, c1, a2, c2, a3, c3, v, lv, cv, g, k1.kp k hS, k2.kp k hS, k3.kp k hS, k4.kp k hS⟩⟩
theorem Built.key {w : World} {lo : Nat} {es : List Em} {lst : Mp} (h : Built w lo es lst) (i s : Int) (hn : ∀ e ∈ es, ¬ (i = e.i ∧ s = e.s)) : lookP lst i s = none := by
  have : ∀ x ∈ lst, ¬ (i = x.1 ∧ s = x.2.1) := fun x hx => by
    obtain ⟨k, hk, e⟩ := List.getElem_of_mem hx
    have hk' : k < es.length := by have := h.1; omega
    obtain ⟨_, _, _, _, _, _, _, _, _, g, _⟩ := h.2 k es[k] (List.getElem?_eq_getElem hk')
    rw [List.getElem?_eq_getElem hk, e] at g
    cases g
    exact hn _ (List.getElem_mem _)
  clear h hn
  induction lst with
  | nil => rfl
  | cons x l ih =>
    simp only [lookP]
    rw [if_neg (by have := this x (by simp); simpa using this)]
    exact ih fun y hy => this y (by simp [hy])
theorem look_put {lst : Mp} {i s : Int} {v : Value} (h : lookP lst i s = none) : putP lst i s v = lst ++ [(i, s, v)] := by
  refine idxP_none lst i s v 0 ?_
  have := idxP_look lst i s 0
  rw [h] at this
  cases hq : idxP lst i s 0 with
  | none => rfl
  | some y => rw [hq] at this; cases this
theorem Built.snoc {w : World} {lo : Nat} {es : List Em} {lst : Mp} (h : Built w lo es lst) (e : Em) (x : Int × Int × Value)
    (hx : ∃ a1 c1 a2 c2 a3 c3 v lv cv, x = (e.i, e.s, .agg (itC e.i e.s e.nm e.t e.rt a1 e.ld c1 a2 e.ll c2 a3 e.lh c3 e.tg e.gr v lv cv)) ∧ Kept w lo a1 e.ld c1 e.zd ∧ Kept w lo a2 e.ll c2 e.zl ∧ Kept w lo a3 e.lh c3 e.zh ∧ Kept w lo v lv cv (firstL e.t e.zd)) : Built w lo (es ++ [e]) (lst ++ [x]) := by
  refine ⟨by simp [h.1], fun k e' he => ?_⟩
  by_cases hk : k < es.length
  · rw [List.getElem?_append_left hk] at he
    rw [List.getElem?_append_left (by have := h.1; omega)]
    exact h.2 k e' he
  · have hk2 : k = es.length := by
      have := (List.getElem?_eq_some_iff.1 he).1
      simp at this
      omega
    subst hk2
    rw [List.getElem?_append_right (Nat.le_refl _)] at he
    simp at he
    subst he
    obtain ⟨a1, c1, a2, c2, a3, c3, v, lv, cv, rfl, g⟩ := hx
    exact ⟨a1, c1, a2, c2, a3, c3, v, lv, cv, by rw [← h.1]; simp, g⟩
theorem makeMap_run (n : Int) (w : World) : (Instr.makeMap 56 (some (.int .i64 n))).run Tryd.prog w = .ok (.map (some w.heap.size)) (w.alloc (.map #[] 0)) := by kernel_rfl
theorem zero_item (w : World) : (zeroValue 62).run Tryd.prog w = .ok (.agg (itC 0 0 ⟨#[]⟩ 0 0 none 0 0 none 0 0 none 0 0 0 0 none 0 0)) w := by kernel_rfl
theorem NF {w : World} {a : Option Addr} {n c : Nat} {t : Int} {zd : List Int} (h : SlOk w a n c (firstL t zd)) (hz : zd.length ≤ 16777216) : n ≤ 16777216 := by
  rw [← h.row.size]
  unfold firstL
  split
  · exact hz
  · have := Ty.Pl.size_bd t; simp [Ty.zeros]; omega
/-- A dictionary was made. -/
def NewPost (es : List Em) (w : World) (r : Ending) (w' : World) : Prop :=
  ∃ lst, r = .returned (.tuple #[.pointer (some ⟨w.heap.size + 1, 0, none⟩), .int .i64 0]) ∧ Below w.heap.size w w' ∧ w'.heap[w.heap.size + 1]? = some (.cells #[.map (some w.heap.size), .int .i64 0] 58 (0, 0)) ∧ IsM w' w.heap.size lst ∧ Built w' (w.heap.size + 2) es lst

set_option linter.unusedSimpArgs false in
set_option maxHeartbeats 4000000 in
set_option maxRecDepth 100000 in
theorem new_at (eb cap : Nat) (es : List Em) (w : World) (hN : es.length ≤ 1024) (hok : ∀ e ∈ es, EmOk w e) (hat : ∀ (k : Nat) (e : Em), es[k]? = some e → EmAt w eb k e) (hdis : ∀ (k : Nat) (e : Em), es[k]? = some e → ∀ e' ∈ es.take k, ¬ (e.i = e'.i ∧ e.s = e'.s)) (hT : Ty.Tab64 w) :
    Calls Tryd.prog 6 #[.slice (some ⟨eb, 0, none⟩) es.length cap] w (NewPost es w) := by
  obtain ⟨N, HN⟩ : ∃ N, Hid (es.length = N) := ⟨_, rfl⟩
  have HOK : Hid (∀ e ∈ es, EmOk w e) := hok
  have HAT : Hid (∀ (k : Nat) (e : Em), es[k]? = some e → EmAt w eb k e) := hat
  have HDI : Hid (∀ (k : Nat) (e : Em), es[k]? = some e → ∀ e' ∈ es.take k, ¬ (e.i = e'.i ∧ e.s = e'.s)) := hdis
  have HT : Hid (Ty.Tab64 w) := hT
  have hmm := makeMap_run
  clear hok hat hdis hT
  rw [HN.out] at hN ⊢
  have hN' : ¬ (1024 : Int) < (N : Int) := by omega
  go_enter Tryd.func6, Tryd.ntmps6
  go_wp2_with fail
  clear hmm
  go_loopw [20] (fun iv wr => ∃ k : Nat, k ≤ N ∧ iv = .int .i64 (k : Int) ∧ Hid (Below w.heap.size w wr ∧ wr.heap[w.heap.size + 1]? = some (.cells #[.map (some w.heap.size), .int .i64 0] 58 (0, 0)) ∧ ∃ lst, IsM wr w.heap.size lst ∧ Built wr (w.heap.size + 2) (es.take k) lst)) (fun iv _ => N - (intOf iv).toNat)
  case atStart => exact ⟨0, Nat.zero_le _, rfl, (by repeat (first | exact Below.refl _ _ | apply Below.drew | apply Below.al)), at11 _ _ _ (by simp), [], (isM_new w).next (by repeat (first | exact Below.refl _ _ | apply Below.drew | apply Below.al)), by simp, fun k e he => by simp at he⟩
  case round =>
    obtain ⟨k, hk, rfl, HI⟩ := hrel
    obtain ⟨hB0, hP0, lst, hM0, hBu0⟩ := HI.out
    have BR : Hid (Below w.heap.size w wr) := hB0
    have PR : Hid (wr.heap[w.heap.size + 1]? = some (.cells #[.map (some w.heap.size), .int .i64 0] 58 (0, 0))) := hP0
    have MR : Hid (IsM wr w.heap.size lst) := hM0
    have BUR : Hid (Built wr (w.heap.size + 2) (es.take k) lst) := hBu0
    clear hB0 hP0 hM0 hBu0 HI
    have lpr : w.heap.size + 1 < wr.heap.size := lt_of_heap PR.out
    by_cases hlt : k < N
    · have hlt' : (k : Int) < (N : Int) := by omega
      have HK : Hid (k < N) := hlt
      have hk9 : k < es.length := by have := HN.out; omega
      obtain ⟨e, hE⟩ : ∃ e, es[k]? = some e := ⟨es[k], List.getElem?_eq_getElem hk9⟩
      have HE : Hid (es[k]? = some e) := hE
      have hin : e ∈ es := List.mem_of_getElem? hE
      have hOK := HOK.out e hin
      have hAT := HAT.out k e hE
      have HL : Hid (lookP lst e.i e.s = none) := BUR.out.key _ _ (HDI.out k e hE)
      have HTK : Hid (es.take (k + 1) = es.take k ++ [e]) := by show _ = _; rw [List.take_succ_eq_append_getElem hk9]; congr; exact (Option.some.inj ((List.getElem?_eq_getElem hk9).symm.trans hE))
      obtain ⟨i, s, nm, t, rt, d, ld, cd, l, ll, cl, h, lh, ch, tg, gr, zd, zl, zh⟩ := e
      dsimp only [EmAt] at hAT
      obtain ⟨rd, rl, rh, b1, b2, b3, hkk, hrr, hgg, hnn, hLL, hHH, hcc⟩ := hOK
      dsimp only at HL rd rl rh b1 b2 b3 hkk hrr hgg hnn hLL hHH hcc
      have HCO : Hid (∀ W, Below w.heap.size w W → Calls Tryd.prog 17 #[.agg (enC i s nm t rt d ld cd l ll cl h lh ch tg gr)] W (CopyPost i s nm t rt ld ll lh tg gr zd zl zh W)) := fun W hb => copyOf_any i s nm t rt d ld cd l ll cl h lh ch tg gr zd zl zh W (rd.next hb) (rl.next hb) (rh.next hb) b1 b2 b3
      have HFI : Hid (∀ W, Below w.heap.size w W → Calls Tryd.prog 19 #[.agg (enC i s nm t rt d ld cd l ll cl h lh ch tg gr)] W fun e w' => ∃ a n c, e = .returned (.slice a n c) ∧ SlOk w' a n c (firstL t zd) ∧ Below W.heap.size W w') := fun W hb => atFirst_any i s nm t rt d ld cd l ll cl h lh ch tg gr zd W (rd.next hb)
      have HMB : Hid (∀ W, Below w.heap.size w W → Calls Tryd.prog 15 #[.agg (enC i s nm t rt d ld cd l ll cl h lh ch tg gr)] W fun e w' => e = .returned (.bool true) ∧ Below W.heap.size W w') := fun W hb => mayBe_yes i s nm t rt d ld cd l ll cl h lh ch tg gr zd zl zh W (rd.next hb) (rl.next hb) (rh.next hb) (tab_next HT.out hb) hkk hrr hgg hnn hLL hHH hcc
      have hzd : zd.length ≤ 16777216 := by rw [rd.row.size]; exact b1
      have NF := fun {W : World} {a : Option Addr} {n c : Nat} (hq : SlOk W a n c (firstL t zd)) => NF hq hzd
      obtain ⟨m0, m1, m2, m3, m4, m5, m6, m7, m8, m9⟩ := hAT
      have g0 : wr.cell? ⟨eb, k * 10, none⟩ = some (.int .u16 i) := (BR.out.cell (block_lt_of_cell m0)).trans m0
      have g1 : wr.cell? ⟨eb, k * 10 + 1, none⟩ = some (.int .u8 s) := (BR.out.cell (block_lt_of_cell m1)).trans m1
      have g2 : wr.cell? ⟨eb, k * 10 + 2, none⟩ = some (.string nm) := (BR.out.cell (block_lt_of_cell m2)).trans m2
      have g3 : wr.cell? ⟨eb, k * 10 + 3, none⟩ = some (.int .u8 t) := (BR.out.cell (block_lt_of_cell m3)).trans m3
      have g4 : wr.cell? ⟨eb, k * 10 + 4, none⟩ = some (.int .u8 rt) := (BR.out.cell (block_lt_of_cell m4)).trans m4
      have g5 : wr.cell? ⟨eb, k * 10 + 5, none⟩ = some (.slice d ld cd) := (BR.out.cell (block_lt_of_cell m5)).trans m5
      have g6 : wr.cell? ⟨eb, k * 10 + 6, none⟩ = some (.slice l ll cl) := (BR.out.cell (block_lt_of_cell m6)).trans m6
      have g7 : wr.cell? ⟨eb, k * 10 + 7, none⟩ = some (.slice h lh ch) := (BR.out.cell (block_lt_of_cell m7)).trans m7
      have g8 : wr.cell? ⟨eb, k * 10 + 8, none⟩ = some (.int .u8 tg) := (BR.out.cell (block_lt_of_cell m8)).trans m8
      have g9 : wr.cell? ⟨eb, k * 10 + 9, none⟩ = some (.int .u8 gr) := (BR.out.cell (block_lt_of_cell m9)).trans m9
      clear rd rl rh b1 b2 b3 hkk hrr hgg hnn hLL hHH hcc hE hin hlt hk9 m0 m1 m2 m3 m4 m5 m6 m7 m8 m9
      go_wp2_with (refine wpList_load_by rfl 53 _ rfl ⟨wr.heap.size, 0, none⟩ _ rfl (loadE _ _ i s nm t rt d ld cd l ll cl h lh ch tg gr _ (at11 _ _ _ rfl)) ?_)
      clear g0 g1 g2 g3 g4 g5 g6 g7 g8 g9
      refine (HMB.out _ (Below.al BR.out _)).mono ?_
      rintro r w1 ⟨rfl, hb⟩
      have B1 : Hid (Below wr.heap.size wr w1) := Below.andThen (Below.al (Below.refl _ _) _) hb
      have E1 : Hid (w1.heap[wr.heap.size]? = some (.cells (enC i s nm t rt d ld cd l ll cl h lh ch tg gr) 53 (0, 0))) := blk11 hb (at11 _ _ _ rfl)
      have le1 := lt_of_heap E1.out
      clear hb
      go_wp2_with (refine wpList_load_by rfl 53 _ rfl ⟨wr.heap.size, 0, none⟩ _ rfl (loadE _ _ i s nm t rt d ld cd l ll cl h lh ch tg gr _ E1.out) ?_)
      refine (placeOf_any i s nm t rt d ld cd l ll cl h lh ch tg gr _).mono ?_
      rintro r w2 ⟨rfl, hb⟩
      have B2 : Hid (Below wr.heap.size wr w2) := Below.andThen B1.out hb
      have E2 : Hid (w2.heap[wr.heap.size]? = some (.cells (enC i s nm t rt d ld cd l ll cl h lh ch tg gr) 53 (0, 0))) := blk11 hb E1.out
      have le2 := lt_of_heap E2.out
      clear hb
      go_wp2_with fail
      obtain ⟨W3, HW3⟩ : ∃ W3, Hid (w2.alloc (.cells #[.int .u16 i, .int .u8 s] 33) = W3) := ⟨_, rfl⟩
      have B3 : Hid (Below wr.heap.size wr W3) := by show Below _ _ _; rw [← HW3.out]; exact Below.al B2.out _
      have E3 : Hid (W3.heap[wr.heap.size]? = some (.cells (enC i s nm t rt d ld cd l ll cl h lh ch tg gr) 53 (0, 0))) := by show _ = _; rw [← HW3.out]; exact ext11 E2.out
      have L3 : Hid (W3.heap[w2.heap.size]? = some (.cells #[.int .u16 i, .int .u8 s] 33 (0, 0))) := by show _ = _; rw [← HW3.out]; exact at11 _ _ _ rfl
      have P3 : Hid (W3.heap[w.heap.size + 1]? = some (.cells #[.map (some w.heap.size), .int .i64 0] 58 (0, 0))) := blk11 B3.out PR.out
      have M3 : Hid (IsM W3 w.heap.size lst) := MR.out.next B3.out
      have S3 : Hid (wr.heap.size ≤ W3.heap.size) := B3.out.size
      have ll3 := lt_of_heap L3.out
      rw [HW3.out]
      refine wp_region_held_drew (S := fun x => Below wr.heap.size wr x ∧ x.heap[w.heap.size + 1]? = some (.cells #[.map (some w.heap.size), .int .i64 0] 58 (0, 0)) ∧ IsM x w.heap.size lst ∧ x.heap[wr.heap.size]? = some (.cells (enC i s nm t rt d ld cd l ll cl h lh ch tg gr) 53 (0, 0)) ∧ x.heap[w2.heap.size]? = some (.cells #[.int .u16 i, .int .u8 s] 33 (0, 0))) (by kernel_rfl) (⟨Below.drew B3.out, P3.out, M3.out, E3.out, L3.out⟩) (fun hHeld => ?_)
      refine tk 0 (.pointer (some ⟨w.heap.size + 1, 0, none⟩)) rfl (.inl ⟨by rfl, ?_⟩) ?_
      · intro w9 hSw
        try dsimp only at hSw
        go_simp
        all_goals try decide
        all_goals try assumption
        all_goals try omega
      try simp only [Act.put, gA, gS, gZ, sA, sZ, sS]
      refine tk 1 (.pointer (some ⟨w.heap.size + 1, 0, none⟩)) rfl (.inl ⟨by rfl, ?_⟩) ?_
      · intro w9 hSw
        try dsimp only at hSw
        go_simp
        all_goals try decide
        all_goals try assumption
        all_goals try omega
      try simp only [Act.put, gA, gS, gZ, sA, sZ, sS]
      refine tk 2 (.pointer (some ⟨w.heap.size + 1, 0, none⟩)) rfl (.inl ⟨by rfl, ?_⟩) ?_
      · intro w9 hSw
        try dsimp only at hSw
        go_simp
        all_goals try decide
        all_goals try assumption
        all_goals try omega
      try simp only [Act.put, gA, gS, gZ, sA, sZ, sS]
      refine tk 3 (.map (some w.heap.size)) rfl (.inl ⟨by rfl, ?_⟩) ?_
      · intro w9 hSw
        try dsimp only at hSw
        have c0 : w9.cell? ⟨w.heap.size + 1, 0, none⟩ = some (.map (some w.heap.size)) := by rw [cell_of_row _ _ 0 _ _ _ hSw.2.1]; rfl
        go_simp
        all_goals try assumption
      try simp only [Act.put, gA, gS, gZ, sA, sZ, sS]
      refine tk 4 (plV i s) rfl (.inl ⟨by rfl, ?_⟩) ?_
      · intro w9 hSw
        try dsimp only at hSw
        exact ex_load11 33 (.tmp 7) rfl _ _ rfl (load_part 33 2 sizeP aggP _ (w2.heap.size) 0 [.int .u16 i, .int .u8 s] _ hSw.2.2.2.2 (by simp))
      try simp only [Act.put, gA, gS, gZ, sA, sZ, sS]
      refine tk 5 (.tuple #[.agg (itC 0 0 ⟨#[]⟩ 0 0 none 0 0 none 0 0 none 0 0 0 0 none 0 0), .bool false]) rfl (.inl ⟨by rfl, ?_⟩) ?_
      · intro w9 hSw
        try dsimp only at hSw
        exact ex_look 56 (.tmp 33) (.tmp 34) true rfl _ _ _ rfl rfl (look_no _ w.heap.size lst i s _ (zero_item _) hSw.2.2.1 HL.out)
      try simp only [Act.put, gA, gS, gZ, sA, sZ, sS]
      refine tk 6 (.tuple #[.agg (itC 0 0 ⟨#[]⟩ 0 0 none 0 0 none 0 0 none 0 0 0 0 none 0 0), .bool false]) rfl (.inl ⟨by rfl, ?_⟩) ?_
      · intro w9 hSw
        try dsimp only at hSw
        go_simp
        all_goals try decide
        all_goals try assumption
        all_goals try omega
      try simp only [Act.put, gA, gS, gZ, sA, sZ, sS]
      refine tk 7 (.agg (itC 0 0 ⟨#[]⟩ 0 0 none 0 0 none 0 0 none 0 0 0 0 none 0 0)) rfl (.inl ⟨by rfl, ?_⟩) ?_
      · intro w9 hSw
        try dsimp only at hSw
        go_simp
        all_goals try decide
        all_goals try assumption
        all_goals try omega
      try simp only [Act.put, gA, gS, gZ, sA, sZ, sS]
      refine tk 8 (.bool false) rfl (.inl ⟨by rfl, ?_⟩) ?_
      · intro w9 hSw
        try dsimp only at hSw
        go_simp
        all_goals try decide
        all_goals try assumption
        all_goals try omega
      try simp only [Act.put, gA, gS, gZ, sA, sZ, sS]
      refine wpAnyH_ready (rs := [9]) (by kernel_rfl) (by simp) ?_
      refine AllReadyH.cons rfl (fun K' hK => ?_) AllReadyH.nil
      rw [if_pos (by rfl)]
      simp only [gA, gS, gZ]
      go_wp2_with fail
      refine hK.out _ _ (⟨Below.al hHeld.1 _, ext11 hHeld.2.1, hHeld.2.2.1.next (Below.al (Below.refl _ _) _), ext11 hHeld.2.2.2.1, ext11 hHeld.2.2.2.2⟩) (fun hHeld => ?_)
      clear hK K'
      try simp only [Act.put, gA, gS, gZ, sA, sZ, sS]
      refine wpAnyH_ready (rs := [10]) (by kernel_rfl) (by simp) ?_
      refine AllReadyH.cons rfl (fun K' hK => ?_) AllReadyH.nil
      rw [if_pos (by rfl)]
      simp only [gA, gS, gZ]
      refine wp_store_by 62 _ _ rfl ⟨W3.heap.size, 0, none⟩ _ rfl rfl (storeI _ _ _ 0 0 ⟨#[]⟩ 0 0 none 0 0 none 0 0 none 0 0 0 0 none 0 0 _ (at11 _ (.cells (itC 0 0 ⟨#[]⟩ 0 0 none 0 0 none 0 0 none 0 0 0 0 none 0 0) 62) _ (by simp)) rfl) ?_
      refine hK.out _ _ (⟨below_setRow hHeld.1 S3.out _, (setRow_other _ _ _ _ (by omega)).trans hHeld.2.1, hHeld.2.2.1.kp (Kp.row (S := [W3.heap.size]) (Kp.refl _ _) _ _ (.inl (by simp))) (by simp; omega), (setRow_other _ _ _ _ (by omega)).trans hHeld.2.2.2.1, (setRow_other _ _ _ _ (by omega)).trans hHeld.2.2.2.2⟩) (fun hHeld => ?_)
      clear hK K'
      try simp only [Act.put, gA, gS, gZ, sA, sZ, sS]
      refine tk 11 (.bool false) rfl (.inl ⟨by rfl, ?_⟩) ?_
      · intro w9 hSw
        try dsimp only at hSw
        go_simp
        all_goals try decide
        all_goals try assumption
        all_goals try omega
      try simp only [Act.put, gA, gS, gZ, sA, sZ, sS]
      refine wpAnyH_done (by kernel_rfl) ?_ _
      obtain ⟨W5, HW5⟩ : ∃ W5, Hid ((W3.alloc (.cells (itC 0 0 ⟨#[]⟩ 0 0 none 0 0 none 0 0 none 0 0 0 0 none 0 0) 62)).drew.setRow W3.heap.size (itC 0 0 ⟨#[]⟩ 0 0 none 0 0 none 0 0 none 0 0 0 0 none 0 0) = W5) := ⟨_, rfl⟩
      have B5 : Hid (Below wr.heap.size wr W5) := by show Below _ _ _; rw [← HW5.out]; exact hHeld.1
      have P5 : Hid (W5.heap[w.heap.size + 1]? = some (.cells #[.map (some w.heap.size), .int .i64 0] 58 (0, 0))) := by show _ = _; rw [← HW5.out]; exact hHeld.2.1
      have M5 : Hid (IsM W5 w.heap.size lst) := by show IsM _ _ _; rw [← HW5.out]; exact hHeld.2.2.1
      have E5 : Hid (W5.heap[wr.heap.size]? = some (.cells (enC i s nm t rt d ld cd l ll cl h lh ch tg gr) 53 (0, 0))) := by show _ = _; rw [← HW5.out]; exact hHeld.2.2.2.1
      have L5 : Hid (W5.heap[w2.heap.size]? = some (.cells #[.int .u16 i, .int .u8 s] 33 (0, 0))) := by show _ = _; rw [← HW5.out]; exact hHeld.2.2.2.2
      rw [show (W3.alloc _).drew.setRow W3.heap.size _ = W5 from HW5.out]
      clear hHeld HW5
      have BWR : Hid (∀ x, Kp [w.heap.size] W5 x → Below w.heap.size w x) := fun x hx => Kp.below (Below.andThen BR.out B5.out) hx (by have := BR.out.size; have := B5.out.size; omega) (by simp)
      go_wp2_with fail
      refine wp_region_held_drew (S := fun x => Kp [w.heap.size] W5 x) (by kernel_rfl) (Kp.drew (Kp.refl _ _)) (fun hHeld => ?_)
      refine tk 0 (.pointer (some ⟨w.heap.size + 1, 0, none⟩)) rfl (.inl ⟨by rfl, ?_⟩) ?_
      · intro w9 hSw
        try dsimp only at hSw
        go_simp
        all_goals try decide
        all_goals try assumption
        all_goals try omega
      try simp only [Act.put, gA, gS, gZ, sA, sZ, sS]
      refine tk 1 (.pointer (some ⟨w.heap.size + 1, 0, none⟩)) rfl (.inl ⟨by rfl, ?_⟩) ?_
      · intro w9 hSw
        try dsimp only at hSw
        go_simp
        all_goals try decide
        all_goals try assumption
        all_goals try omega
      try simp only [Act.put, gA, gS, gZ, sA, sZ, sS]
      refine tk 2 (.pointer (some ⟨w.heap.size + 1, 0, none⟩)) rfl (.inl ⟨by rfl, ?_⟩) ?_
      · intro w9 hSw
        try dsimp only at hSw
        go_simp
        all_goals try decide
        all_goals try assumption
        all_goals try omega
      try simp only [Act.put, gA, gS, gZ, sA, sZ, sS]
      refine tk 3 (.map (some w.heap.size)) rfl (.inl ⟨by rfl, ?_⟩) ?_
      · intro w9 hSw
        try dsimp only at hSw
        have c0 : w9.cell? ⟨w.heap.size + 1, 0, none⟩ = some (.map (some w.heap.size)) := by rw [cell_of_row _ _ 0 _ _ _ (hSw.at (by simp) P5.out)]; rfl
        go_simp
        all_goals try assumption
      try simp only [Act.put, gA, gS, gZ, sA, sZ, sS]
      refine tk 4 (plV i s) rfl (.inl ⟨by rfl, ?_⟩) ?_
      · intro w9 hSw
        try dsimp only at hSw
        exact ex_load11 33 (.tmp 7) rfl _ _ rfl (load_part 33 2 sizeP aggP _ (w2.heap.size) 0 [.int .u16 i, .int .u8 s] _ (hSw.at (by simp; omega) L5.out) (by simp))
      try simp only [Act.put, gA, gS, gZ, sA, sZ, sS]
      refine tk 5 (.agg (enC i s nm t rt d ld cd l ll cl h lh ch tg gr)) rfl (.inl ⟨by rfl, ?_⟩) ?_
      · intro w9 hSw
        try dsimp only at hSw
        exact ex_load11 53 (.tmp 6) rfl _ _ rfl (loadE _ _ i s nm t rt d ld cd l ll cl h lh ch tg gr _ (hSw.at (by simp; omega) E5.out))
      try simp only [Act.put, gA, gS, gZ, sA, sZ, sS]
      refine tk 7 (.agg (enC i s nm t rt d ld cd l ll cl h lh ch tg gr)) rfl (.inl ⟨by rfl, ?_⟩) ?_
      · intro w9 hSw
        try dsimp only at hSw
        exact ex_load11 53 (.tmp 6) rfl _ _ rfl (loadE _ _ i s nm t rt d ld cd l ll cl h lh ch tg gr _ (hSw.at (by simp; omega) E5.out))
      try simp only [Act.put, gA, gS, gZ, sA, sZ, sS]
      refine wpAnyH_ready (rs := [6]) (by kernel_rfl) (by simp) ?_
      refine AllReadyH.cons rfl (fun K' hK => ?_) AllReadyH.nil
      rw [if_pos (by rfl)]
      simp only [gA, gS, gZ]
      go_wp2_with fail
      refine (HCO.out _ (BWR.out _ hHeld)).mono ?_
      rintro e w6 ⟨a1, c1, a2, c2, a3, c3, rfl, t1, t2, t3, hb6⟩
      have T1 : Hid (Told _ w6 a1 ld c1 zd) := t1
      have T2 : Hid (Told _ w6 a2 ll c2 zl) := t2
      have T3 : Hid (Told _ w6 a3 lh c3 zh) := t3
      have N6 : Hid (Below W5.drew.heap.size W5.drew w6) := hb6
      clear t1 t2 t3
      try go_wp2_with fail
      refine hK.out _ _ (hHeld.trans (Kp.of hb6)) (fun hHeld => ?_)
      clear hK K'
      try simp only [Act.put, gA, gS, gZ, sA, sZ, sS]
      refine wpAnyH_ready (rs := [8]) (by kernel_rfl) (by simp) ?_
      refine AllReadyH.cons rfl (fun K' hK => ?_) AllReadyH.nil
      rw [if_pos (by rfl)]
      simp only [gA, gS, gZ]
      go_wp2_with fail
      refine (HFI.out _ (BWR.out _ hHeld)).mono ?_
      rintro e w7 ⟨af, nf, cf, rfl, hqf, hb7⟩
      have QF : Hid (SlOk w7 af nf cf (firstL t zd)) := hqf
      have N7 : Hid (Below w6.heap.size w6 w7) := hb7
      clear hqf
      try go_wp2_with fail
      refine hK.out _ _ (hHeld.trans (Kp.of hb7)) (fun hHeld => ?_)
      clear hK K'
      try simp only [Act.put, gA, gS, gZ, sA, sZ, sS]
      refine wpAnyH_ready (rs := [9]) (by kernel_rfl) (by simp) ?_
      refine AllReadyH.cons rfl (fun K' hK => ?_) AllReadyH.nil
      rw [if_pos (by rfl)]
      simp only [gA, gS, gZ]
      go_wp2_with fail
      refine (clone8_any af nf cf _ _ QF.out.row (NF QF.out)).mono ?_
      rintro e w8 ⟨⟨av, cv, rfl, htv⟩, hb8⟩
      have TV : Hid (Told w7 w8 av nf cv (firstL t zd)) := htv
      have N8 : Hid (Below w7.heap.size w7 w8) := hb8
      clear htv
      try go_wp2_with fail
      refine hK.out _ _ (hHeld.trans (Kp.of hb8)) (fun hHeld => ?_)
      clear hK K'
      try simp only [Act.put, gA, gS, gZ, sA, sZ, sS]
      refine tk 10 (.agg (itC i s nm t rt a1 ld c1 a2 ll c2 a3 lh c3 tg gr av nf cv)) rfl (.inl ⟨by rfl, ?_⟩) ?_
      · intro w9 hSw
        try dsimp only at hSw
        go_simp
        all_goals try decide
        all_goals try assumption
        all_goals try omega
      try simp only [Act.put, gA, gS, gZ, sA, sZ, sS]
      refine wpAnyH_ready (rs := [11]) (by kernel_rfl) (by simp) ?_
      refine AllReadyH.cons rfl (fun K' hK => ?_) AllReadyH.nil
      rw [if_pos (by rfl)]
      simp only [gA, gS, gZ]
      have M8 : Hid (IsM w8 w.heap.size lst) := (((show IsM W5.drew w.heap.size lst from M5.out).next N6.out).next N7.out).next N8.out
      obtain ⟨w9, hrun, hM9, hK9⟩ := upd_run w8 w.heap.size lst i s (.agg (itC i s nm t rt a1 ld c1 a2 ll c2 a3 lh c3 tg gr av nf cv)) M8.out
      have M9 : Hid (IsM w9 w.heap.size (putP lst i s (.agg (itC i s nm t rt a1 ld c1 a2 ll c2 a3 lh c3 tg gr av nf cv)))) := hM9
      have K9 : Hid (Kp [w.heap.size] w8 w9) := hK9
      have K59 : Hid (Kp [w.heap.size] W5 w9) := hHeld.trans hK9
      refine wp_upd_by 56 _ _ _ rfl _ _ _ rfl rfl rfl hrun ?_
      refine hK.out _ _ (K59.out) (fun hHeld => ?_)
      clear hK K'
      try simp only [Act.put, gA, gS, gZ, sA, sZ, sS]
      refine wpAnyH_done (by kernel_rfl) ?_ _
      have BU9 : Hid (Built w9 (w.heap.size + 2) (es.take (k + 1)) (lst ++ [(i, s, .agg (itC i s nm t rt a1 ld c1 a2 ll c2 a3 lh c3 tg gr av nf cv))])) := by
        show Built _ _ _ _
        rw [HTK.out]
        have s5 : w.heap.size + 2 ≤ W5.heap.size := by have := B5.out.size; omega
        have s6 : w.heap.size + 2 ≤ w6.heap.size := Nat.le_trans s5 N6.out.size
        have s7 : w.heap.size + 2 ≤ w7.heap.size := Nat.le_trans s6 N7.out.size
        have hS : ∀ {x : World}, ∀ b ∈ [w.heap.size], b < w.heap.size + 2 ∨ x.heap.size ≤ b := fun b hb => by simp at hb; omega
        have n69 : Kp [w.heap.size] w6 w9 := ((Kp.of N7.out).trans (Kp.of N8.out)).trans K9.out
        refine (BUR.out.kp ((Kp.of B5.out).trans K59.out) hS).snoc _ _ ⟨a1, c1, a2, c2, a3, c3, av, nf, cv, rfl, ?_, ?_, ?_, ?_⟩
        · exact (T1.out.kept s5).kp n69 hS
        · exact (T2.out.kept s5).kp n69 hS
        · exact (T3.out.kept s5).kp n69 hS
        · exact (TV.out.kept s7).kp K9.out hS
      have P9 : Hid (w9.heap[w.heap.size + 1]? = some (.cells #[.map (some w.heap.size), .int .i64 0] 58 (0, 0))) := K59.out.at (by simp) P5.out
      have M9' : Hid (IsM w9 w.heap.size (lst ++ [(i, s, .agg (itC i s nm t rt a1 ld c1 a2 ll c2 a3 lh c3 tg gr av nf cv))])) := by show IsM _ _ _; rw [← look_put HL.out]; exact M9.out
      have B9 : Hid (Below w.heap.size w w9) := BWR.out _ K59.out
      clear hHeld
      go_wp2_with fail
      first
        | exact ⟨⟨k + 1, by have := HK.out; omega, by go_num, B9.out, P9.out, _, M9'.out, BU9.out⟩, by have := HK.out; simp [intOf]; omega⟩
        | (refine ⟨?_, ?_⟩
           · (repeat apply Exists.intro)
             refine ⟨?_, rfl⟩
             exact ⟨k + 1, by have := HK.out; omega, by go_num, B9.out, P9.out, _, M9'.out, BU9.out⟩
           · have := HK.out; simp [intOf]; omega)
    · obtain rfl : k = N := by omega
      go_wp2_with fail
      go_ret2
      refine ⟨lst, rfl, BR.out, PR.out, MR.out, ?_⟩
      have := BUR.out
      rwa [List.take_of_length_le (by have := HN.out; omega)] at this
#print axioms new_at
end Go.Proofs.YtcdmldnaagiicaaDoor
