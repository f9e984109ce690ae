/-
  A value is put; Write.
-/
import Derived.Test.YtajllkkbgpijiaaGreatDoorDe
import Derived.Test.YtajllkkbgpijiaaGreatDoorTk9
namespace Go.Proofs.YtajllkkbgpijiaaGreatDoor
open Go.RowKit

/-- A value was put. -/
def PutPost (i s : Int) (nm : ByteArray) (t rt : Int) (d : Option Addr) (ld cd : Nat) (l : Option Addr) (ll cl : Nat) (h : Option Addr) (lh ch : Nat) (tg gr : Int) (p m : Nat) (cg : Int) (lst : Mp) (lb : Nat) (zb : List Int) (w w' : World) : Prop :=
  ∃ a' c', Kp [p, m] w w' ∧ w'.heap[p]? = some (.cells #[.map (some m), .int .i64 (cg + 1)] 91 (0, 0)) ∧ IsM w' m (putP lst i s (.agg (itC i s nm t rt d ld cd l ll cl h lh ch tg gr a' lb c'))) ∧ Told w w' a' lb c' zb
set_option linter.unusedSimpArgs false in
set_option maxHeartbeats 4000000 in
set_option maxRecDepth 100000 in
theorem put_at (p m : Nat) (cg : Int) (lst : Mp) (i s : Int) (nm : ByteArray) (t rt : Int) (d : Option Addr) (ld cd : Nat) (l : Option Addr) (ll cl : Nat) (h : Option Addr) (lh ch : Nat) (tg gr : Int) (v : Option Addr) (lv cv : Nat) (b : Option Addr) (lb cb : Nat) (zb : List Int) (w : World) (hp : w.heap[p]? = some (.cells #[.map (some m), .int .i64 cg] 91 (0, 0))) (hm : IsM w m lst) (hl : lookP lst i s = some (.agg (itC i s nm t rt d ld cd l ll cl h lh ch tg gr v lv cv))) (rb : SlOk w b lb cb zb) (hlb : lb ≤ 16777216) (hc0 : 0 ≤ cg) (hc1 : cg < 4611686018427387904) (hne : p ≠ m) :
    Calls Tryz.prog 54 #[.pointer (some ⟨p, 0, none⟩), plV i s, .slice b lb cb] w fun e w' => e = .returned (.tuple #[]) ∧ PutPost i s nm t rt d ld cd l ll cl h lh ch tg gr p m cg lst lb zb w w' := by
  have HP : Hid (w.heap[p]? = some (.cells #[.map (some m), .int .i64 cg] 91 (0, 0))) := hp
  have HM : Hid (IsM w m lst) := hm
  have HL : Hid (lookP lst i s = some (.agg (itC i s nm t rt d ld cd l ll cl h lh ch tg gr v lv cv))) := hl
  have HC : Hid (∀ W, Below w.heap.size w W → Calls Tryz.prog 38 #[.slice b lb cb] W fun e w' => (∃ a' cap', e = .returned (.slice a' lb cap') ∧ Told W w' a' lb cap' zb) ∧ Below W.heap.size W w') := fun W hb => clone8_any b lb cb zb W (rb.row.next hb) hlb
  have lp : p < w.heap.size := lt_of_heap hp
  have lm : m < w.heap.size := hm.lt
  have hw : IntKind.i64.wrap (cg + 1) = cg + 1 := by simp [IntKind.wrap, IntKind.bits, IntKind.signed]; omega
  clear hp hm hl rb hlb
  go_enter Tryz.func54, Tryz.ntmps54
  go_wp2_with fail
  refine wp_region_held_drew (S := fun x => Below w.heap.size w x ∧ x.heap[p]? = some (.cells #[.map (some m), .int .i64 cg] 91 (0, 0)) ∧ IsM x m lst ∧ x.heap[w.heap.size]? = some (.cells #[.int .u16 i, .int .u8 s] 43 (0, 0))) (by kernel_rfl) (⟨Below.drew (by repeat (first | exact Below.refl _ _ | apply Below.drew | apply Below.al)), ext11 HP.out, (HM.out.next (by repeat (first | exact Below.refl _ _ | apply Below.drew | apply Below.al))), at11 _ _ _ rfl⟩) (fun hHeld => ?_)
  refine tk 0 (.pointer (some ⟨p, 0, none⟩)) rfl (.inl ⟨by rfl, ?_⟩) ?_
  · intro w9 hSw
    try dsimp only at hSw
    go_simp
    all_goals try decide
    all_goals try assumption
    all_goals try omega
  try simp only [Act.put, gA, gS, gZ, sA, sZ, sS]
  refine tk 1 (.pointer (some ⟨p, 0, none⟩)) rfl (.inl ⟨by rfl, ?_⟩) ?_
  · intro w9 hSw
    try dsimp only at hSw
    go_simp
    all_goals try decide
    all_goals try assumption
    all_goals try omega
  try simp only [Act.put, gA, gS, gZ, sA, sZ, sS]
  refine tk 2 (.pointer (some ⟨p, 0, none⟩)) rfl (.inl ⟨by rfl, ?_⟩) ?_
  · intro w9 hSw
    try dsimp only at hSw
    go_simp
    all_goals try decide
    all_goals try assumption
    all_goals try omega
  try simp only [Act.put, gA, gS, gZ, sA, sZ, sS]
  refine tk 3 (.map (some m)) rfl (.inl ⟨by rfl, ?_⟩) ?_
  · intro w9 hSw
    try dsimp only at hSw
    have c0 : w9.cell? ⟨p, 0, none⟩ = some (.map (some m)) := by rw [cell_of_row _ _ 0 _ _ _ hSw.2.1]; rfl
    go_simp
    all_goals try assumption
  try simp only [Act.put, gA, gS, gZ, sA, sZ, sS]
  refine tk 4 (plV i s) rfl (.inl ⟨by rfl, ?_⟩) ?_
  · intro w9 hSw
    try dsimp only at hSw
    exact ex_load11 43 (.tmp 4) rfl _ _ rfl (load_part 43 2 sizeP aggP _ (w.heap.size) 0 [.int .u16 i, .int .u8 s] _ hSw.2.2.2 (by simp))
  try simp only [Act.put, gA, gS, gZ, sA, sZ, sS]
  refine tk 5 (.agg (itC i s nm t rt d ld cd l ll cl h lh ch tg gr v lv cv)) rfl (.inl ⟨by rfl, ?_⟩) ?_
  · intro w9 hSw
    try dsimp only at hSw
    exact ex_look 89 (.tmp 10) (.tmp 11) false rfl _ _ _ rfl rfl (look_one _ m lst i s _ hSw.2.2.1 HL.out)
  try simp only [Act.put, gA, gS, gZ, sA, sZ, sS]
  refine wpAnyH_ready (rs := [6]) (by kernel_rfl) (by simp) ?_
  refine AllReadyH.cons rfl (fun K' hK => ?_) AllReadyH.nil
  rw [if_pos (by rfl)]
  simp only [gA, gS, gZ]
  go_wp2_with fail
  refine hK.out _ _ (⟨Below.al hHeld.1 _, ext11 hHeld.2.1, hHeld.2.2.1.next (Below.al (Below.refl _ _) _), ext11 hHeld.2.2.2⟩) (fun hHeld => ?_)
  clear hK K'
  try simp only [Act.put, gA, gS, gZ, sA, sZ, sS]
  refine wpAnyH_ready (rs := [7]) (by kernel_rfl) (by simp) ?_
  refine AllReadyH.cons rfl (fun K' hK => ?_) AllReadyH.nil
  rw [if_pos (by rfl)]
  simp only [gA, gS, gZ]
  refine wp_store_by 95 _ _ rfl ⟨w.heap.size + 1, 0, none⟩ _ rfl rfl (storeI _ _ _ i s nm t rt d ld cd l ll cl h lh ch tg gr v lv cv _ (at11 _ (.cells (itC 0 0 ⟨#[]⟩ 0 0 none 0 0 none 0 0 none 0 0 0 0 none 0 0) 95) _ (by simp)) rfl) ?_
  refine hK.out _ _ (⟨below_setRow hHeld.1 (by omega) _, (setRow_other _ _ _ _ (by omega)).trans hHeld.2.1, hHeld.2.2.1.kp (Kp.row (S := [w.heap.size + 1]) (Kp.refl _ _) _ _ (.inl (by simp))) (by simp; omega), (setRow_other _ _ _ _ (by omega)).trans hHeld.2.2.2⟩) (fun hHeld => ?_)
  clear hK K'
  try simp only [Act.put, gA, gS, gZ, sA, sZ, sS]
  refine wpAnyH_done (by kernel_rfl) ?_ _
  obtain ⟨W1, HW1⟩ : ∃ W1, Hid (((w.alloc (.cells #[.int .u16 i, .int .u8 s] 43)).alloc (.cells (itC 0 0 ⟨#[]⟩ 0 0 none 0 0 none 0 0 none 0 0 0 0 none 0 0) 95)).drew.setRow (w.heap.size + 1) (itC i s nm t rt d ld cd l ll cl h lh ch tg gr v lv cv) = W1) := ⟨_, rfl⟩
  have B1 : Hid (Below w.heap.size w W1) := by show Below _ _ _; rw [← HW1.out]; exact hHeld.1
  have HP1 : Hid (W1.heap[p]? = some (.cells #[.map (some m), .int .i64 cg] 91 (0, 0))) := by show _ = _; rw [← HW1.out]; exact hHeld.2.1
  have M1 : Hid (IsM W1 m lst) := by show IsM _ _ _; rw [← HW1.out]; exact hHeld.2.2.1
  have L1 : Hid (W1.heap[w.heap.size]? = some (.cells #[.int .u16 i, .int .u8 s] 43 (0, 0))) := by show _ = _; rw [← HW1.out]; exact hHeld.2.2.2
  have G1 : Hid (W1.heap[w.heap.size + 1]? = some (.cells (itC i s nm t rt d ld cd l ll cl h lh ch tg gr v lv cv) 95 (0, 0))) := by show _ = _; rw [← HW1.out]; exact setRow_heap _ _ _ _ _ _ (at11 _ (.cells (itC 0 0 ⟨#[]⟩ 0 0 none 0 0 none 0 0 none 0 0 0 0 none 0 0) 95) _ (by simp))
  rw [show ((w.alloc _).alloc _).drew.setRow (w.heap.size + 1) _ = W1 from HW1.out]
  clear hHeld HW1
  have lg1 : Hid (w.heap.size + 1 < W1.heap.size) := lt_of_heap G1.out
  go_wp2_with fail
  refine (HC.out _ B1.out).mono ?_
  rintro e w2 ⟨⟨a', c', rfl, ht⟩, hb⟩
  have T2 : Hid (Told W1 w2 a' lb c' zb) := ht
  have N2 : Hid (Below W1.heap.size W1 w2) := hb
  have G2 : Hid (w2.heap[w.heap.size + 1]? = some (.cells (itC i s nm t rt d ld cd l ll cl h lh ch tg gr v lv cv) 95 (0, 0))) := blk11 hb G1.out
  clear ht hb
  go_wp2_with (refine wpList_store_by rfl 24 _ _ rfl ⟨w.heap.size + 1, 10, none⟩ _ rfl rfl (store_sl _ sizeSl _ (w.heap.size + 1) 10 a' lb c' _ _ G2.out (by simp)) ?_)
  obtain ⟨W3, HW3⟩ : ∃ W3, Hid (w2.setRow (w.heap.size + 1) (itC i s nm t rt d ld cd l ll cl h lh ch tg gr a' lb c') = W3) := ⟨_, rfl⟩
  have B3 : Hid (Below w.heap.size w W3) := by show Below _ _ _; rw [← HW3.out]; exact below_setRow (Below.andThen B1.out N2.out) (Nat.le_succ _) _
  have HP3 : Hid (W3.heap[p]? = some (.cells #[.map (some m), .int .i64 cg] 91 (0, 0))) := by show _ = _; rw [← HW3.out]; exact (setRow_other _ _ _ _ (by omega)).trans (blk11 N2.out HP1.out)
  have M3 : Hid (IsM W3 m lst) := by show IsM _ _ _; rw [← HW3.out]; exact (M1.out.next N2.out).kp (Kp.row (S := [w.heap.size + 1]) (Kp.refl _ _) _ _ (.inl (by simp))) (by simp; omega)
  have L3 : Hid (W3.heap[w.heap.size]? = some (.cells #[.int .u16 i, .int .u8 s] 43 (0, 0))) := by show _ = _; rw [← HW3.out]; exact (setRow_other _ _ _ _ (by omega)).trans (blk11 N2.out L1.out)
  have G3 : Hid (W3.heap[w.heap.size + 1]? = some (.cells (itC i s nm t rt d ld cd l ll cl h lh ch tg gr a' lb c') 95 (0, 0))) := by show _ = _; rw [← HW3.out]; exact setRow_heap _ _ _ _ _ _ G2.out
  have T3 : Hid (Told w W3 a' lb c' zb) := by
    show Told _ _ _ _ _ _
    rw [← HW3.out]
    exact T2.out.keep11 B1.out.size (fun g h1 _ => setRow_other _ _ _ _ (by have := lg1.out; omega))
  rw [show w2.setRow (w.heap.size + 1) ((itC i s nm t rt d ld cd l ll cl h lh ch tg gr v lv cv).setIfInBounds 10 (.slice a' lb c')) = W3 from HW3.out]
  clear HW3
  try simp only [Act.put]
  try go_wp2_with fail
  refine wp_region_held_drew (S := fun x => Kp [m] W3 x) (by kernel_rfl) (Kp.drew (Kp.refl _ _)) (fun hHeld => ?_)
  refine tk 0 (.pointer (some ⟨p, 0, none⟩)) rfl (.inl ⟨by rfl, ?_⟩) ?_
  · intro w9 hSw
    try dsimp only at hSw
    go_simp
    all_goals try decide
    all_goals try assumption
    all_goals try omega
  try simp only [Act.put, gA, gS, gZ, sA, sZ, sS]
  refine tk 1 (.pointer (some ⟨p, 0, none⟩)) rfl (.inl ⟨by rfl, ?_⟩) ?_
  · intro w9 hSw
    try dsimp only at hSw
    go_simp
    all_goals try decide
    all_goals try assumption
    all_goals try omega
  try simp only [Act.put, gA, gS, gZ, sA, sZ, sS]
  refine tk 2 (.pointer (some ⟨p, 0, none⟩)) rfl (.inl ⟨by rfl, ?_⟩) ?_
  · intro w9 hSw
    try dsimp only at hSw
    go_simp
    all_goals try decide
    all_goals try assumption
    all_goals try omega
  try simp only [Act.put, gA, gS, gZ, sA, sZ, sS]
  refine tk 3 (.map (some m)) rfl (.inl ⟨by rfl, ?_⟩) ?_
  · intro w9 hSw
    try dsimp only at hSw
    have c0 : w9.cell? ⟨p, 0, none⟩ = some (.map (some m)) := by rw [cell_of_row _ _ 0 _ _ _ (hSw.at (by simp; omega) HP3.out)]; rfl
    go_simp
    all_goals try assumption
  try simp only [Act.put, gA, gS, gZ, sA, sZ, sS]
  refine tk 4 (plV i s) rfl (.inl ⟨by rfl, ?_⟩) ?_
  · intro w9 hSw
    try dsimp only at hSw
    exact ex_load11 43 (.tmp 4) rfl _ _ rfl (load_part 43 2 sizeP aggP _ (w.heap.size) 0 [.int .u16 i, .int .u8 s] _ (hSw.at (by simp; omega) L3.out) (by simp))
  try simp only [Act.put, gA, gS, gZ, sA, sZ, sS]
  refine tk 5 (.agg (itC i s nm t rt d ld cd l ll cl h lh ch tg gr a' lb c')) rfl (.inl ⟨by rfl, ?_⟩) ?_
  · intro w9 hSw
    try dsimp only at hSw
    exact ex_load11 95 (.tmp 6) rfl _ _ rfl (loadI _ _ i s nm t rt d ld cd l ll cl h lh ch tg gr a' lb c' _ (hSw.at (by simp; omega) G3.out))
  try simp only [Act.put, gA, gS, gZ, sA, sZ, sS]
  refine wpAnyH_ready (rs := [6]) (by kernel_rfl) (by simp) ?_
  refine AllReadyH.cons rfl (fun K' hK => ?_) AllReadyH.nil
  rw [if_pos (by rfl)]
  simp only [gA, gS, gZ]
  obtain ⟨w4, hrun, hM4, hK4⟩ := upd_run W3.drew m lst i s (.agg (itC i s nm t rt d ld cd l ll cl h lh ch tg gr a' lb c')) M3.out
  have M4 : Hid (IsM w4 m (putP lst i s (.agg (itC i s nm t rt d ld cd l ll cl h lh ch tg gr a' lb c')))) := hM4
  have K4 : Hid (Kp [m] W3 w4) := (Kp.drew (Kp.refl _ _)).trans hK4
  refine wp_upd_by 89 _ _ _ rfl _ _ _ rfl rfl rfl hrun ?_
  refine hK.out _ _ (K4.out) (fun hHeld => ?_)
  clear hK K'
  try simp only [Act.put, gA, gS, gZ, sA, sZ, sS]
  refine wpAnyH_done (by kernel_rfl) ?_ _
  have HP4 : Hid (w4.heap[p]? = some (.cells #[.map (some m), .int .i64 cg] 91 (0, 0))) := K4.out.at (by simpa using hne) HP3.out
  have c1 : w4.cell? ⟨p, 1, none⟩ = some (.int .i64 cg) := by rw [cell_of_row _ _ 1 _ _ _ HP4.out]; rfl
  have z1 : w4.frozen? ⟨p, 1, none⟩ = false := froz11 _ p 1 _ _ HP4.out
  clear hHeld
  go_wp2_with fail
  go_end0
  have K5 : Kp [p, m] w (w4.setCell ⟨p, 1, none⟩ (.int .i64 (cg + 1))) := Kp.set ((Kp.of B3.out).trans (K4.out.more (by simp))) _ _ (.inl (by simp))
  refine ⟨rfl, a', c', K5, heap_setCell_same _ _ _ _ _ _ HP4.out, M4.out.kp (Kp.set (S := [p]) (Kp.refl _ _) _ _ (.inl (by simp))) (by simpa using Ne.symm hne), T3.out.keep11 (Nat.le_refl _) (fun g h1 h2 => ?_)⟩
  rw [heap_setCell_other _ _ _ _ (by show g ≠ p; omega), K4.out.block g h2 (by simp; omega)]
#print axioms put_at

set_option linter.unusedSimpArgs false in
set_option maxHeartbeats 4000000 in
set_option maxRecDepth 100000 in
theorem write_at (p m : Nat) (cg : Int) (lst : Mp) (i s : Int) (nm : ByteArray) (t rt : Int) (d : Option Addr) (ld cd : Nat) (l : Option Addr) (ll cl : Nat) (h : Option Addr) (lh ch : Nat) (tg gr : Int) (v : Option Addr) (lv cv : Nat) (b : Option Addr) (lb cb : Nat) (zb zl zh : List Int) (w : World) (hp : w.heap[p]? = some (.cells #[.map (some m), .int .i64 cg] 91 (0, 0))) (hm : IsM w m lst) (hl : lookP lst i s = some (.agg (itC i s nm t rt d ld cd l ll cl h lh ch tg gr v lv cv))) (rb : SlOk w b lb cb zb) (rl : SlOk w l ll cl zl) (rh : SlOk w h lh ch zh) (hT : Ty.Tab64 w)
    (hr : (bits .and .u8 rt 2 != 0) = true) (hc : Ty.chkN t zb zl zh = 0) (hlb : lb ≤ 16777216) (hc0 : 0 ≤ cg) (hc1 : cg < 4611686018427387904) (hne : p ≠ m) :
    Calls Tryz.prog 31 #[.pointer (some ⟨p, 0, none⟩), plV i s, .slice b lb cb] w fun e w' => e = .returned (.int .u32 0) ∧ PutPost i s nm t rt d ld cd l ll cl h lh ch tg gr p m cg lst lb zb w w' := by
  have HM : Hid (∀ W, Below w.heap.size w W → Calls Tryz.prog 25 #[.pointer (some ⟨p, 0, none⟩), plV i s, .slice b lb cb] W fun e w' => e = .returned (.tuple #[.int .u8 tg, .int .u32 0]) ∧ Below W.heap.size W w') := fun W hb => may_at p m cg lst i s nm t rt d ld cd l ll cl h lh ch tg gr v lv cv b lb cb zb zl zh W (blk11 hb hp) (hm.next hb) hl (rb.next hb) (rl.next hb) (rh.next hb) (tab_next hT hb) hr hc
  have HP : Hid (∀ W, Below w.heap.size w W → Calls Tryz.prog 54 #[.pointer (some ⟨p, 0, none⟩), plV i s, .slice b lb cb] W fun e w' => e = .returned (.tuple #[]) ∧ PutPost i s nm t rt d ld cd l ll cl h lh ch tg gr p m cg lst lb zb W w') := fun W hb => put_at p m cg lst i s nm t rt d ld cd l ll cl h lh ch tg gr v lv cv b lb cb zb W (blk11 hb hp) (hm.next hb) hl (rb.next hb) hlb hc0 hc1 hne
  clear hp hm hl rb rl rh hT hr hc hlb hc0 hc1 hne
  go_enter Tryz.func31, Tryz.ntmps31
  go_wp2_with fail
  refine (HM.out _ (by repeat (first | exact Below.refl _ _ | apply Below.drew | apply Below.al))).mono ?_
  rintro e w1 ⟨rfl, hb⟩
  have B1 : Hid (Below w.heap.size w w1) := Below.andThen (by repeat (first | exact Below.refl _ _ | apply Below.drew | apply Below.al)) hb
  have L1 : Hid (w1.heap[w.heap.size]? = some (.cells #[.int .u16 i, .int .u8 s] 43 (0, 0))) := blk11 hb (at11 _ _ _ rfl)
  have l0 : w1.cell? ⟨w.heap.size, 0, none⟩ = some (.int .u16 i) := by rw [cell_of_row _ _ 0 _ _ _ L1.out]; rfl
  have l1 : w1.cell? ⟨w.heap.size, 1, none⟩ = some (.int .u8 s) := by rw [cell_of_row _ _ 1 _ _ _ L1.out]; rfl
  clear hb
  go_wp2_with fail
  refine (HP.out _ B1.out).mono ?_
  rintro e w2 ⟨rfl, a', c', k1, k2, k3, k4⟩
  have HK : Hid (PutPost i s nm t rt d ld cd l ll cl h lh ch tg gr p m cg lst lb zb w w2) := ⟨a', c', (Kp.of B1.out).trans k1, k2, k3, k4.keep11 B1.out.size (fun _ _ _ => rfl)⟩
  clear k1 k2 k3 k4
  go_wp2_with fail
  go_ret
  exact ⟨rfl, HK.out⟩
#print axioms write_at
end Go.Proofs.YtajllkkbgpijiaaGreatDoor
