/-
  A write that is whole is committed.
  A write in one frame.
  A read in one frame.
  A write and a read in one frame are followed.
  A frame that is meant is heard.
  The example's entries.
-/
import Derived.Test.YtimnpdegoehblaaGreatDoorVa
import Derived.Test.YtimnpdegoehblaaGreatDoorTk9
import Derived.Lib.SmallJoins
import Derived.Test.YtimnpdegoehblaaGreatDoorDd
namespace Go.Proofs.YtimnpdegoehblaaGreatDoor
open Go.RowKit

/-- The dictionary and the entry at a place, whatever else turns. -/
def Env (S : List Nat) (w : World) (dp m : Nat) (cg : Int) (lst : Mp) (i s : Int) (nm : ByteArray) (t rt : Int) (d : Option Addr) (ld cd : Nat) (l : Option Addr) (ll cl : Nat) (h : Option Addr) (lh ch : Nat) (tg gr : Int) (v : Option Addr) (lv cv : Nat) (zd zl zh : List Int) : Prop := ∀ W, Kp S w W → W.heap[dp]? = some (.cells #[.map (some m), .int .i64 cg] 70 (0, 0)) ∧ IsM W m lst ∧ SlOk W d ld cd zd ∧ SlOk W l ll cl zl ∧ SlOk W h lh ch zh ∧ Ty.Tab64 W ∧ lookP lst i s = some (.agg (itC i s nm t rt d ld cd l ll cl h lh ch tg gr v lv cv))
theorem Env.next {S : List Nat} {w W : World} {dp m : Nat} {cg : Int} {lst : Mp} {i s : Int} {nm : ByteArray} {t rt : Int} {d : Option Addr} {ld cd : Nat} {l : Option Addr} {ll cl : Nat} {h : Option Addr} {lh ch : Nat} {tg gr : Int} {v : Option Addr} {lv cv : Nat} {zd zl zh : List Int} (he : Env S w dp m cg lst i s nm t rt d ld cd l ll cl h lh ch tg gr v lv cv zd zl zh) (k : Kp S w W) : Env S W dp m cg lst i s nm t rt d ld cd l ll cl h lh ch tg gr v lv cv zd zl zh := fun W' k' => he W' (k.trans k')
/-- It was committed. -/
def CommitPost (S : List Nat) (sp dp m : Nat) (A wt cg : Int) (lst : Mp) (i s : Int) (nm : ByteArray) (t rt : Int) (d : Option Addr) (ld cd : Nat) (l : Option Addr) (ll cl : Nat) (h : Option Addr) (lh ch : Nat) (tg gr : Int) (lb : Nat) (zb : List Int) (w w' : World) : Prop :=
  ∃ a' c', Kp S w w' ∧ w'.heap[sp]? = some (.cells (svC A dp wt none) 41 (0, 0)) ∧ w'.heap[dp]? = some (.cells #[.map (some m), .int .i64 (cg + 1)] 70 (0, 0)) ∧ IsM w' m (putP lst i s (.agg (itC i s nm t rt d ld cd l ll cl h lh ch tg gr a' lb c'))) ∧ Told w w' a' lb c' zb
set_option linter.unusedSimpArgs false in
set_option maxHeartbeats 4000000 in
set_option maxRecDepth 100000 in
theorem commit_at (sp T : Nat) (A wt : Int) (dp m : Nat) (cg : Int) (lst : Mp) (i s : Int) (nm : ByteArray) (t rt : Int) (d : Option Addr) (ld cd : Nat) (l : Option Addr) (ll cl : Nat) (h : Option Addr) (lh ch : Nat) (tg gr : Int) (v : Option Addr) (lv cv : Nat) (zd zl zh : List Int) (last waits : Int) (tq ck : Bool) (ab : Option Addr) (lab cab : Nat) (sz : Bool) (size next blk dn told : Int) (b : Option Addr) (lb cb : Nat) (zb : List Int) (w : World) (hs : w.heap[sp]? = some (.cells (svC A dp wt (some ⟨T, 0, none⟩)) 41 (0, 0))) (hT : w.heap[T]? = some (.cells (stC i s last waits tq ck ab lab cab sz size next blk dn told) 44 (0, 0))) (he : Env [] w dp m cg lst i s nm t rt d ld cd l ll cl h lh ch tg gr v lv cv zd zl zh) (rb : SlOk w b lb cb zb) (hlb : lb ≤ 16777216)
    (hr : (bits .and .u8 rt 2 != 0) = true) (hc : Ty.chkN t zb zl zh = 0) (ht : (tg != 0) = true) (hc0 : 0 ≤ cg) (hc1 : cg < 4611686018427387904) (n1 : sp ≠ dp) (n2 : sp ≠ m) (n3 : dp ≠ m) :
    Calls Tryz.prog 83 #[.pointer (some ⟨sp, 0, none⟩), .slice b lb cb] w fun e w' => e = .returned (.tuple #[]) ∧ CommitPost [sp, dp, m] sp dp m A wt cg lst i s nm t rt d ld cd l ll cl h lh ch tg gr lb zb w w' := by
  have HS : Hid (w.heap[sp]? = some (.cells (svC A dp wt (some ⟨T, 0, none⟩)) 41 (0, 0))) := hs
  have ls : sp < w.heap.size := lt_of_heap hs
  have ld' : dp < w.heap.size := lt_of_heap (he w (Kp.refl _ _)).1
  have lm : m < w.heap.size := (he w (Kp.refl _ _)).2.1.lt
  have c4 : w.cell? ⟨sp, 4, none⟩ = some (.pointer (some ⟨T, 0, none⟩)) := by rw [cell_of_row w _ 4 _ _ _ hs]; rfl
  have t0 : w.cell? ⟨T, 0, none⟩ = some (.int .u16 i) := by rw [cell_of_row w _ 0 _ _ _ hT]; rfl
  have t1 : w.cell? ⟨T, 1, none⟩ = some (.int .u8 s) := by rw [cell_of_row w _ 1 _ _ _ hT]; rfl
  have HMA : Hid (∀ W, Below w.heap.size w W → Calls Tryz.prog 107 #[.pointer (some ⟨dp, 0, none⟩), plV i s, .slice b lb cb] W fun e w' => e = .returned (.tuple #[.int .u8 tg, .int .u32 0]) ∧ Below W.heap.size W w') := fun W hb => by
    obtain ⟨e1, e2, e3, e4, e5, e6, e7⟩ := he W (Kp.of hb)
    exact may_at dp m cg lst i s nm t rt d ld cd l ll cl h lh ch tg gr v lv cv b lb cb zb zl zh W e1 e2 e7 (rb.next hb) e4 e5 e6 hr hc
  have HWR : Hid (∀ W, Below w.heap.size w W → Calls Tryz.prog 108 #[.pointer (some ⟨dp, 0, none⟩), plV i s, .slice b lb cb] W fun e w' => e = .returned (.int .u32 0) ∧ PutPost i s nm t rt d ld cd l ll cl h lh ch tg gr dp m cg lst lb zb W w') := fun W hb => by
    obtain ⟨e1, e2, e3, e4, e5, e6, e7⟩ := he W (Kp.of hb)
    exact write_at dp m cg lst i s nm t rt d ld cd l ll cl h lh ch tg gr v lv cv b lb cb zb zl zh W e1 e2 e7 (rb.next hb) e4 e5 e6 hr hc hlb hc0 hc1 n3
  have hnn : ∀ W, (binOp .neq 38 .nilIface .nilIface).run Tryz.prog W = .ok (.bool false) W := fun W => by kernel_rfl
  clear hs hT he rb hlb hr hc hc0 hc1
  go_enter Tryz.func83, Tryz.ntmps83
  go_wp2_with fail
  refine wp_region_held_drew (S := fun x => Below w.heap.size w x ∧ x.heap[w.heap.size]? = some (.cells #[.int .u16 i, .int .u8 s] 28 (0, 0))) (by kernel_rfl) (⟨Below.drew (by repeat (first | exact Below.refl _ _ | apply Below.drew | apply Below.al)), at11 _ _ _ rfl⟩) (fun hHeld => ?_)
  refine tk 0 (.pointer (some ⟨sp, 0, none⟩)) rfl (.inl ⟨by rfl, ?_⟩) ?_
  · intro w9 hSw
    try dsimp only at hSw
    go_simp
    all_goals try decide
    all_goals try assumption
    all_goals try omega
  try simp only [Act.put, gA, gS, gZ, sA, sZ, sS]
  refine tk 1 (.pointer (some ⟨sp, 0, none⟩)) rfl (.inl ⟨by rfl, ?_⟩) ?_
  · intro w9 hSw
    try dsimp only at hSw
    go_simp
    all_goals try decide
    all_goals try assumption
    all_goals try omega
  try simp only [Act.put, gA, gS, gZ, sA, sZ, sS]
  refine tk 2 (.pointer (some ⟨sp, 1, none⟩)) rfl (.inl ⟨by rfl, ?_⟩) ?_
  · intro w9 hSw
    try dsimp only at hSw
    go_simp
    all_goals try decide
    all_goals try assumption
    all_goals try omega
  try simp only [Act.put, gA, gS, gZ, sA, sZ, sS]
  refine tk 3 (.pointer (some ⟨dp, 0, none⟩)) rfl (.inl ⟨by rfl, ?_⟩) ?_
  · intro w9 hSw
    try dsimp only at hSw
    have c0 : w9.cell? ⟨sp, 1, none⟩ = some (.pointer (some ⟨dp, 0, none⟩)) := by rw [cell_of_row _ _ 1 _ _ _ (blk11 hSw.1 HS.out)]; rfl
    go_simp
    all_goals try assumption
  try simp only [Act.put, gA, gS, gZ, sA, sZ, sS]
  refine tk 4 (plV i s) rfl (.inl ⟨by rfl, ?_⟩) ?_
  · intro w9 hSw
    try dsimp only at hSw
    exact ex_load11 28 (.tmp 4) rfl _ _ rfl (load_part 28 2 sizeP aggP _ (w.heap.size) 0 [.int .u16 i, .int .u8 s] _ hSw.2 (by simp))
  try simp only [Act.put, gA, gS, gZ, sA, sZ, sS]
  refine tk 5 (.slice b lb cb) rfl (.inl ⟨by rfl, ?_⟩) ?_
  · intro w9 hSw
    try dsimp only at hSw
    go_simp
    all_goals try decide
    all_goals try assumption
    all_goals try omega
  try simp only [Act.put, gA, gS, gZ, sA, sZ, sS]
  refine wpAnyH_ready (rs := [6]) (by kernel_rfl) (by simp) ?_
  refine AllReadyH.cons rfl (fun K' hK => ?_) AllReadyH.nil
  rw [if_pos (by rfl)]
  simp only [gA, gS, gZ]
  go_wp2_with fail
  refine (HMA.out _ hHeld.1).mono ?_
  rintro e w1 ⟨rfl, hbx⟩
  try go_wp2_with fail
  refine hK.out _ _ (⟨Below.andThen hHeld.1 hbx, blk11 hbx hHeld.2⟩) (fun hHeld => ?_)
  clear hK K'
  try simp only [Act.put, gA, gS, gZ, sA, sZ, sS]
  refine tk 7 (.tuple #[.int .u8 tg, .int .u32 0]) rfl (.inl ⟨by rfl, ?_⟩) ?_
  · intro w9 hSw
    try dsimp only at hSw
    go_simp
    all_goals try decide
    all_goals try assumption
    all_goals try omega
  try simp only [Act.put, gA, gS, gZ, sA, sZ, sS]
  refine tk 8 (.int .u8 tg) rfl (.inl ⟨by rfl, ?_⟩) ?_
  · intro w9 hSw
    try dsimp only at hSw
    go_simp
    all_goals try decide
    all_goals try assumption
    all_goals try omega
  try simp only [Act.put, gA, gS, gZ, sA, sZ, sS]
  refine tk 9 (.int .u32 0) rfl (.inl ⟨by rfl, ?_⟩) ?_
  · intro w9 hSw
    try dsimp only at hSw
    go_simp
    all_goals try decide
    all_goals try assumption
    all_goals try omega
  try simp only [Act.put, gA, gS, gZ, sA, sZ, sS]
  refine tk 10 (.int .u8 tg) rfl (.inl ⟨by rfl, ?_⟩) ?_
  · intro w9 hSw
    try dsimp only at hSw
    go_simp
    all_goals try decide
    all_goals try assumption
    all_goals try omega
  try simp only [Act.put, gA, gS, gZ, sA, sZ, sS]
  refine tk 11 (.int .u32 0) rfl (.inl ⟨by rfl, ?_⟩) ?_
  · intro w9 hSw
    try dsimp only at hSw
    go_simp
    all_goals try decide
    all_goals try assumption
    all_goals try omega
  try simp only [Act.put, gA, gS, gZ, sA, sZ, sS]
  refine wpAnyH_done (by kernel_rfl) ?_ _
  have B1 : Hid (Below w.heap.size w w1) := hHeld.1
  have L1 : Hid (w1.heap[w.heap.size]? = some (.cells #[.int .u16 i, .int .u8 s] 28 (0, 0))) := hHeld.2
  have S1 : Hid (w1.heap[sp]? = some (.cells (svC A dp wt (some ⟨T, 0, none⟩)) 41 (0, 0))) := blk11 B1.out HS.out
  have h2 : w1.cell? ⟨sp, 2, none⟩ = some .nilIface := by rw [cell_of_row w1 _ 2 _ _ _ S1.out]; rfl
  clear hHeld c4 t0 t1
  go_wp2_with fail
  refine (heed_ok _).mono ?_
  rintro e w1 ⟨rfl, rfl⟩
  go_wp2_with fail
  refine wp_region_held_drew (S := fun x => Kp [dp, m] w1 x) (by kernel_rfl) (Kp.drew (Kp.refl _ _)) (fun hHeld => ?_)
  refine tk 0 (.pointer (some ⟨sp, 0, none⟩)) rfl (.inl ⟨by rfl, ?_⟩) ?_
  · intro w9 hSw
    try dsimp only at hSw
    go_simp
    all_goals try decide
    all_goals try assumption
    all_goals try omega
  try simp only [Act.put, gA, gS, gZ, sA, sZ, sS]
  refine tk 1 (.pointer (some ⟨sp, 0, none⟩)) rfl (.inl ⟨by rfl, ?_⟩) ?_
  · intro w9 hSw
    try dsimp only at hSw
    go_simp
    all_goals try decide
    all_goals try assumption
    all_goals try omega
  try simp only [Act.put, gA, gS, gZ, sA, sZ, sS]
  refine tk 2 (.pointer (some ⟨sp, 1, none⟩)) rfl (.inl ⟨by rfl, ?_⟩) ?_
  · intro w9 hSw
    try dsimp only at hSw
    go_simp
    all_goals try decide
    all_goals try assumption
    all_goals try omega
  try simp only [Act.put, gA, gS, gZ, sA, sZ, sS]
  refine tk 3 (.pointer (some ⟨dp, 0, none⟩)) rfl (.inl ⟨by rfl, ?_⟩) ?_
  · intro w9 hSw
    try dsimp only at hSw
    have c0 : w9.cell? ⟨sp, 1, none⟩ = some (.pointer (some ⟨dp, 0, none⟩)) := by rw [cell_of_row _ _ 1 _ _ _ (hSw.at (by simp; omega) S1.out)]; rfl
    go_simp
    all_goals try assumption
  try simp only [Act.put, gA, gS, gZ, sA, sZ, sS]
  refine tk 4 (plV i s) rfl (.inl ⟨by rfl, ?_⟩) ?_
  · intro w9 hSw
    try dsimp only at hSw
    exact ex_load11 28 (.tmp 4) rfl _ _ rfl (load_part 28 2 sizeP aggP _ (w.heap.size) 0 [.int .u16 i, .int .u8 s] _ (hSw.at (by simp; omega) L1.out) (by simp))
  try simp only [Act.put, gA, gS, gZ, sA, sZ, sS]
  refine tk 5 (.slice b lb cb) rfl (.inl ⟨by rfl, ?_⟩) ?_
  · intro w9 hSw
    try dsimp only at hSw
    go_simp
    all_goals try decide
    all_goals try assumption
    all_goals try omega
  try simp only [Act.put, gA, gS, gZ, sA, sZ, sS]
  refine wpAnyH_ready (rs := [6]) (by kernel_rfl) (by simp) ?_
  refine AllReadyH.cons rfl (fun K' hK => ?_) AllReadyH.nil
  rw [if_pos (by rfl)]
  simp only [gA, gS, gZ]
  go_wp2_with fail
  refine (HWR.out _ (Below.drew B1.out)).mono ?_
  rintro e w2 ⟨rfl, hput⟩
  obtain ⟨a', c', k1, k2, k3, k4⟩ := hput
  have K12 : Hid (Kp [dp, m] w1 w2) := (Kp.drew (Kp.refl _ _)).trans k1
  have D2 : Hid (w2.heap[dp]? = some (.cells #[.map (some m), .int .i64 (cg + 1)] 70 (0, 0))) := k2
  have M2 : Hid (IsM w2 m (putP lst i s (.agg (itC i s nm t rt d ld cd l ll cl h lh ch tg gr a' lb c')))) := k3
  have T2 : Hid (Told w1.drew w2 a' lb c' zb) := k4
  clear k1 k2 k3 k4
  try go_wp2_with fail
  refine hK.out _ _ (K12.out) (fun hHeld => ?_)
  clear hK K'
  try simp only [Act.put, gA, gS, gZ, sA, sZ, sS]
  refine wpAnyH_ready (rs := [7]) (by kernel_rfl) (by simp) ?_
  refine AllReadyH.cons rfl (fun K' hK => ?_) AllReadyH.nil
  rw [if_pos (by rfl)]
  simp only [gA, gS, gZ]
  go_wp2_with fail
  refine (heed_ok _).mono ?_
  rintro e w2 ⟨rfl, rfl⟩
  try go_wp2_with fail
  refine hK.out _ _ (hHeld) (fun hHeld => ?_)
  clear hK K'
  try simp only [Act.put, gA, gS, gZ, sA, sZ, sS]
  refine wpAnyH_done (by kernel_rfl) ?_ _
  have S2 : Hid (w2.heap[sp]? = some (.cells (svC A dp wt (some ⟨T, 0, none⟩)) 41 (0, 0))) := K12.out.at (by simp; omega) S1.out
  have c4 : w2.cell? ⟨sp, 4, none⟩ = some (.pointer (some ⟨T, 0, none⟩)) := by rw [cell_of_row w2 _ 4 _ _ _ S2.out]; rfl
  have z4 : w2.frozen? ⟨sp, 4, none⟩ = false := froz11 _ sp 4 _ _ S2.out
  clear hHeld
  go_wp2_with fail
  go_end0
  have K3 : Kp [sp] w2 (w2.setCell ⟨sp, 4, none⟩ (.pointer none)) := Kp.set (Kp.refl _ _) _ _ (.inl (by simp))
  refine ⟨rfl, a', c', (Kp.of B1.out).trans ((K12.out.more (by simp)).trans (K3.more (by simp))), heap_setCell_same _ _ _ _ _ _ S2.out, K3.at (by simpa using Ne.symm n1) D2.out, M2.out.kp K3 (by simpa using Ne.symm n2), T2.out.keep11 B1.out.size (fun g h1 _ => heap_setCell_other _ _ _ _ ?_)⟩
  have := B1.out.size
  have h1' : w1.heap.size ≤ g := h1
  show g ≠ sp
  omega
#print axioms commit_at
end Go.Proofs.YtimnpdegoehblaaGreatDoor
namespace Go.Proofs.YtimnpdegoehblaaGreatDoor
open Go.RowKit

set_option linter.unusedSimpArgs false in
set_option maxHeartbeats 4000000 in
set_option maxRecDepth 100000 in
theorem once_at (sp : Nat) (A wt : Int) (dp m : Nat) (cg : Int) (lst : Mp) (i s : Int) (nm : ByteArray) (t rt : Int) (d : Option Addr) (ld cd : Nat) (l : Option Addr) (ll cl : Nat) (h : Option Addr) (lh ch : Nat) (tg gr : Int) (v : Option Addr) (lv cv : Nat) (zd zl zh : List Int) (b : Option Addr) (lb cb : Nat) (zb : List Int) (kk nn : Int) (ct cf ck2 : Bool) (bb ee uu mm oo : Int) (w : World) (hs : w.heap[sp]? = some (.cells (svC A dp wt none) 41 (0, 0))) (he : Env [sp] w dp m cg lst i s nm t rt d ld cd l ll cl h lh ch tg gr v lv cv zd zl zh) (rb : ∀ W, Kp [sp] w W → SlOk W b lb cb zb) (hlb : lb ≤ 16777216) (h1 : ld ≤ 16777216) (h2 : ll ≤ 16777216) (h3 : lh ≤ 16777216)
    (hr : (bits .and .u8 rt 2 != 0) = true) (hc : Ty.chkN t zb zl zh = 0) (ht : (tg != 0) = true) (hsz : 0 < Ty.Pl.sizeN t) (hc0 : 0 ≤ cg) (hc1 : cg < 4611686018427387904) (n1 : sp ≠ dp) (n2 : sp ≠ m) (n3 : dp ≠ m) :
    Calls Tryz.prog 44 #[.pointer (some ⟨sp, 0, none⟩), cmV kk i s true nn true b lb cb ct cf ck2 bb ee uu mm oo] w fun e w' => e = .returned (.tuple #[]) ∧ CommitPost [sp, dp, m] sp dp m A wt cg lst i s nm t rt d ld cd l ll cl h lh ch tg gr lb zb w w' := by
  have HS : Hid (w.heap[sp]? = some (.cells (svC A dp wt none) 41 (0, 0))) := hs
  have ls : sp < w.heap.size := lt_of_heap hs
  have c4 : w.cell? ⟨sp, 4, none⟩ = some (.pointer none) := by rw [cell_of_row w _ 4 _ _ _ hs]; rfl
  have z4 : w.frozen? ⟨sp, 4, none⟩ = false := froz11 w sp 4 _ _ hs
  have HFE : Hid (∀ W, Kp [sp] w W → Calls Tryz.prog 80 #[.pointer (some ⟨dp, 0, none⟩), plV i s] W fun e w' => (∃ a1 c1 a2 c2 a3 c3, e = .returned (.tuple #[.agg (enC i s nm t rt a1 ld c1 a2 ll c2 a3 lh c3 tg gr), .int .u32 0])) ∧ Below W.heap.size W w') := fun W hk => by
    obtain ⟨e1, e2, e3, e4, e5, e6, e7⟩ := he W hk
    exact findE_at dp m cg lst i s nm t rt d ld cd l ll cl h lh ch tg gr v lv cv zd zl zh W e1 e2 e7 e3 e4 e5 h1 h2 h3
  have HCM : Hid (∀ W T, Kp [sp] w W → W.heap[sp]? = some (.cells (svC A dp wt (some ⟨T, 0, none⟩)) 41 (0, 0)) → W.heap[T]? = some (.cells (stC i s 0 0 false false none 0 0 false 0 0 0 0 0) 44 (0, 0)) → Calls Tryz.prog 83 #[.pointer (some ⟨sp, 0, none⟩), .slice b lb cb] W fun e w' => e = .returned (.tuple #[]) ∧ CommitPost [sp, dp, m] sp dp m A wt cg lst i s nm t rt d ld cd l ll cl h lh ch tg gr lb zb W w') := fun W T hk h4 h5 =>
    commit_at sp T A wt dp m cg lst i s nm t rt d ld cd l ll cl h lh ch tg gr v lv cv zd zl zh 0 0 false false none 0 0 false 0 0 0 0 0 b lb cb zb W h4 h5 (fun W' hk' => he W' (hk.trans (hk'.more (by simp)))) (rb W hk) hlb hr hc ht hc0 hc1 n1 n2 n3
  have HSZ : Hid (∀ W, Calls Tryz.prog 82 #[.int .u8 t] W fun e w' => e = .returned (.tuple #[.int .i64 (Ty.Pl.sizeN t), .bool true]) ∧ w' = W) := fun W => by
    have := Ty.size_any t W
    rw [show decide (0 < Ty.Pl.sizeN t) = true by simpa using hsz] at this
    exact this
  clear hs he rb h1 h2 h3 hr hc ht hsz hc0 hc1 n1 n2 n3
  go_enter Tryz.func44, Tryz.ntmps44
  go_wp2_with fail
  obtain ⟨W1, HW1⟩ : ∃ W1, Hid (((w.setCell ⟨sp, 4, none⟩ (.pointer (some ⟨w.heap.size + 1, 0, none⟩))).alloc (.cells (cmC kk i s true nn true b lb cb ct cf ck2 bb ee uu mm oo) 61)).alloc (.cells (stC i s 0 0 false false none 0 0 false 0 0 0 0 0) 44) = W1) := ⟨_, rfl⟩
  have K1 : Hid (Kp [sp] w W1) := by show Kp _ _ _; rw [← HW1.out]; exact Kp.al (Kp.al (Kp.set (Kp.refl _ _) _ _ (.inl (by simp))) _) _
  have S1 : Hid (W1.heap[sp]? = some (.cells (svC A dp wt (some ⟨w.heap.size + 1, 0, none⟩)) 41 (0, 0))) := by show _ = _; rw [← HW1.out]; exact ext11 (ext11 (heap_setCell_same _ _ _ _ _ _ HS.out))
  have C1 : Hid (W1.heap[w.heap.size]? = some (.cells (cmC kk i s true nn true b lb cb ct cf ck2 bb ee uu mm oo) 61 (0, 0))) := by show _ = _; rw [← HW1.out]; exact ext11 (at11 _ _ _ (by simp))
  have T1 : Hid (W1.heap[w.heap.size + 1]? = some (.cells (stC i s 0 0 false false none 0 0 false 0 0 0 0 0) 44 (0, 0))) := by show _ = _; rw [← HW1.out]; exact at11 _ _ _ (by simp)
  rw [show ((w.setCell _ _).alloc _).alloc _ = W1 from HW1.out]
  have HFI : Hid (∀ W, Below W1.heap.size W1 W → Calls Tryz.prog 80 #[.pointer (some ⟨dp, 0, none⟩), plV i s] W fun e w' => (∃ a1 c1 a2 c2 a3 c3, e = .returned (.tuple #[.agg (enC i s nm t rt a1 ld c1 a2 ll c2 a3 lh c3 tg gr), .int .u32 0])) ∧ Below W.heap.size W w') := fun W hb => HFE.out W (K1.out.trans (Kp.of hb))
  clear HW1 c4 z4 HFE
  refine wp_region_held_drew (S := fun x => Below W1.heap.size W1 x) (by kernel_rfl) (Below.drew (Below.refl _ _)) (fun hHeld => ?_)
  refine tk 0 (.pointer (some ⟨sp, 0, none⟩)) rfl (.inl ⟨by rfl, ?_⟩) ?_
  · intro w9 hSw
    try dsimp only at hSw
    go_simp
    all_goals try decide
    all_goals try assumption
    all_goals try omega
  try simp only [Act.put, gA, gS, gZ, sA, sZ, sS]
  refine tk 1 (.pointer (some ⟨sp, 0, none⟩)) rfl (.inl ⟨by rfl, ?_⟩) ?_
  · intro w9 hSw
    try dsimp only at hSw
    go_simp
    all_goals try decide
    all_goals try assumption
    all_goals try omega
  try simp only [Act.put, gA, gS, gZ, sA, sZ, sS]
  refine tk 2 (.pointer (some ⟨sp, 1, none⟩)) rfl (.inl ⟨by rfl, ?_⟩) ?_
  · intro w9 hSw
    try dsimp only at hSw
    go_simp
    all_goals try decide
    all_goals try assumption
    all_goals try omega
  try simp only [Act.put, gA, gS, gZ, sA, sZ, sS]
  refine tk 3 (.pointer (some ⟨dp, 0, none⟩)) rfl (.inl ⟨by rfl, ?_⟩) ?_
  · intro w9 hSw
    try dsimp only at hSw
    have c0 : w9.cell? ⟨sp, 1, none⟩ = some (.pointer (some ⟨dp, 0, none⟩)) := by rw [cell_of_row _ _ 1 _ _ _ (blk11 hSw S1.out)]; rfl
    go_simp
    all_goals try assumption
  try simp only [Act.put, gA, gS, gZ, sA, sZ, sS]
  refine tk 4 (.pointer (some ⟨w.heap.size, 1, none⟩)) rfl (.inl ⟨by rfl, ?_⟩) ?_
  · intro w9 hSw
    try dsimp only at hSw
    go_simp
    all_goals try decide
    all_goals try assumption
    all_goals try omega
  try simp only [Act.put, gA, gS, gZ, sA, sZ, sS]
  refine tk 5 (plV i s) rfl (.inl ⟨by rfl, ?_⟩) ?_
  · intro w9 hSw
    try dsimp only at hSw
    exact ex_load11 28 (.tmp 21) rfl _ _ rfl (load_part 28 2 sizeP aggP _ (w.heap.size) 1 [.int .u8 kk, .int .u16 i, .int .u8 s, .bool true, .int .u32 nn, .bool true, .slice b lb cb, .bool ct, .bool cf, .bool ck2, .int .i64 bb, .int .i64 ee, .int .u16 uu, .int .i64 mm, .int .u32 oo] _ (blk11 hSw C1.out) (by simp))
  try simp only [Act.put, gA, gS, gZ, sA, sZ, sS]
  refine wpAnyH_ready (rs := [6, 10]) (by kernel_rfl) (by simp) ?_
  refine (AllReadyH.cons rfl (fun K' hK => ?y1) (AllReadyH.cons rfl (fun K' hK => ?y2) AllReadyH.nil))
  case' y1 =>
    rw [if_pos (by rfl)]
    simp only [gA, gS, gZ]
    go_wp2_with fail
    refine (HFI.out _ hHeld).mono ?_
    rintro r w2 ⟨⟨a1, c1, a2, c2, a3, c3, rfl⟩, hbx⟩
    have N2S : Hid (W1.heap.size ≤ w2.heap.size) := (Below.andThen hHeld hbx).size
    try go_wp2_with fail
    refine hK.out _ _ (Below.andThen hHeld hbx) (fun hHeld => ?_)
    clear hK K'
    try simp only [Act.put, gA, gS, gZ, sA, sZ, sS]
    refine tk 7 (.tuple #[.agg (enC i s nm t rt a1 ld c1 a2 ll c2 a3 lh c3 tg gr), .int .u32 0]) rfl (.inl ⟨by rfl, ?_⟩) ?_
    · intro w9 hSw
      try dsimp only at hSw
      go_simp
      all_goals try decide
      all_goals try assumption
      all_goals try omega
    try simp only [Act.put, gA, gS, gZ, sA, sZ, sS]
    refine tk 8 (.agg (enC i s nm t rt a1 ld c1 a2 ll c2 a3 lh c3 tg gr)) rfl (.inl ⟨by rfl, ?_⟩) ?_
    · intro w9 hSw
      try dsimp only at hSw
      go_simp
      all_goals try decide
      all_goals try assumption
      all_goals try omega
    try simp only [Act.put, gA, gS, gZ, sA, sZ, sS]
    refine tk 9 (.int .u32 0) rfl (.inl ⟨by rfl, ?_⟩) ?_
    · intro w9 hSw
      try dsimp only at hSw
      go_simp
      all_goals try decide
      all_goals try assumption
      all_goals try omega
    try simp only [Act.put, gA, gS, gZ, sA, sZ, sS]
    refine wpAnyH_ready (rs := [10]) (by kernel_rfl) (by simp) ?_
    refine AllReadyH.cons rfl (fun K' hK => ?_) AllReadyH.nil
    rw [if_pos (by rfl)]
    simp only [gA, gS, gZ]
    go_wp2_with fail
    refine hK.out _ _ (Below.al hHeld _) (fun hHeld => ?_)
    clear hK K'
    try simp only [Act.put, gA, gS, gZ, sA, sZ, sS]
    refine wpAnyH_ready (rs := [11]) (by kernel_rfl) (by simp) ?_
    refine AllReadyH.cons rfl (fun K' hK => ?_) AllReadyH.nil
    rw [if_pos (by rfl)]
    simp only [gA, gS, gZ]
    refine wp_store_by 72 _ _ rfl ⟨w2.heap.size, 0, none⟩ _ rfl rfl (storeE _ _ _ i s nm t rt a1 ld c1 a2 ll c2 a3 lh c3 tg gr _ (at11 w2 (.cells (enC 0 0 ⟨#[]⟩ 0 0 none 0 0 none 0 0 none 0 0 0 0) 72) _ rfl) rfl) ?_
    refine hK.out _ _ (below_setRow hHeld (by first | exact Nat.le_refl _ | exact N2S.out) _) (fun hHeld => ?_)
    clear hK K'
    try simp only [Act.put, gA, gS, gZ, sA, sZ, sS]
    refine tk 12 (.int .u32 0) rfl (.inl ⟨by rfl, ?_⟩) ?_
    · intro w9 hSw
      try dsimp only at hSw
      go_simp
      all_goals try decide
      all_goals try assumption
      all_goals try omega
    try simp only [Act.put, gA, gS, gZ, sA, sZ, sS]
    refine wpAnyH_done (by kernel_rfl) ?_ _
    obtain ⟨W3, HW3⟩ : ∃ W3, Hid ((w2.alloc (.cells (enC 0 0 ⟨#[]⟩ 0 0 none 0 0 none 0 0 none 0 0 0 0) 72)).setRow w2.heap.size (enC i s nm t rt a1 ld c1 a2 ll c2 a3 lh c3 tg gr) = W3) := ⟨_, rfl⟩
    have B3 : Hid (Below W1.heap.size W1 W3) := by show Below _ _ _; rw [← HW3.out]; exact hHeld
    have X3 : Hid (W3.heap[w2.heap.size]? = some (.cells (enC i s nm t rt a1 ld c1 a2 ll c2 a3 lh c3 tg gr) 72 (0, 0))) := by show _ = _; rw [← HW3.out]; exact setRow_heap _ _ _ _ _ _ (at11 w2 (.cells (enC 0 0 ⟨#[]⟩ 0 0 none 0 0 none 0 0 none 0 0 0 0) 72) _ rfl)
    rw [show (w2.alloc (.cells (enC 0 0 ⟨#[]⟩ 0 0 none 0 0 none 0 0 none 0 0 0 0) 72)).setRow w2.heap.size (enC i s nm t rt a1 ld c1 a2 ll c2 a3 lh c3 tg gr) = W3 from HW3.out]
    obtain ⟨E, HE⟩ : ∃ E, Hid (w2.heap.size = E) := ⟨_, rfl⟩
    rw [HE.out] at X3 ⊢
    clear hHeld HW3 HE
  case' y2 =>
    rw [if_pos (by rfl)]
    simp only [gA, gS, gZ]
    go_wp2_with fail
    refine hK.out _ _ (Below.al hHeld _) (fun hHeld => ?_)
    clear hK K'
    try simp only [Act.put, gA, gS, gZ, sA, sZ, sS]
    refine wpAnyH_ready (rs := [6]) (by kernel_rfl) (by simp) ?_
    refine AllReadyH.cons rfl (fun K' hK => ?_) AllReadyH.nil
    rw [if_pos (by rfl)]
    simp only [gA, gS, gZ]
    go_wp2_with fail
    refine (HFI.out _ hHeld).mono ?_
    rintro r w2 ⟨⟨a1, c1, a2, c2, a3, c3, rfl⟩, hbx⟩
    have N2S : Hid (W1.heap.size ≤ w2.heap.size) := (Below.andThen hHeld hbx).size
    have X2 := blk11 hbx (at11 W1 (.cells (enC 0 0 ⟨#[]⟩ 0 0 none 0 0 none 0 0 none 0 0 0 0) 72) W1.heap.size rfl)
    try go_wp2_with fail
    refine hK.out _ _ (Below.andThen hHeld hbx) (fun hHeld => ?_)
    clear hK K'
    try simp only [Act.put, gA, gS, gZ, sA, sZ, sS]
    refine tk 7 (.tuple #[.agg (enC i s nm t rt a1 ld c1 a2 ll c2 a3 lh c3 tg gr), .int .u32 0]) rfl (.inl ⟨by rfl, ?_⟩) ?_
    · intro w9 hSw
      try dsimp only at hSw
      go_simp
      all_goals try decide
      all_goals try assumption
      all_goals try omega
    try simp only [Act.put, gA, gS, gZ, sA, sZ, sS]
    refine tk 8 (.agg (enC i s nm t rt a1 ld c1 a2 ll c2 a3 lh c3 tg gr)) rfl (.inl ⟨by rfl, ?_⟩) ?_
    · intro w9 hSw
      try dsimp only at hSw
      go_simp
      all_goals try decide
      all_goals try assumption
      all_goals try omega
    try simp only [Act.put, gA, gS, gZ, sA, sZ, sS]
    refine tk 9 (.int .u32 0) rfl (.inl ⟨by rfl, ?_⟩) ?_
    · intro w9 hSw
      try dsimp only at hSw
      go_simp
      all_goals try decide
      all_goals try assumption
      all_goals try omega
    try simp only [Act.put, gA, gS, gZ, sA, sZ, sS]
    refine wpAnyH_ready (rs := [11]) (by kernel_rfl) (by simp) ?_
    refine AllReadyH.cons rfl (fun K' hK => ?_) AllReadyH.nil
    rw [if_pos (by rfl)]
    simp only [gA, gS, gZ]
    refine wp_store_by 72 _ _ rfl ⟨W1.heap.size, 0, none⟩ _ rfl rfl (storeE _ _ _ i s nm t rt a1 ld c1 a2 ll c2 a3 lh c3 tg gr _ (X2) rfl) ?_
    refine hK.out _ _ (below_setRow hHeld (by first | exact Nat.le_refl _ | exact N2S.out) _) (fun hHeld => ?_)
    clear hK K'
    try simp only [Act.put, gA, gS, gZ, sA, sZ, sS]
    refine tk 12 (.int .u32 0) rfl (.inl ⟨by rfl, ?_⟩) ?_
    · intro w9 hSw
      try dsimp only at hSw
      go_simp
      all_goals try decide
      all_goals try assumption
      all_goals try omega
    try simp only [Act.put, gA, gS, gZ, sA, sZ, sS]
    refine wpAnyH_done (by kernel_rfl) ?_ _
    obtain ⟨W3, HW3⟩ : ∃ W3, Hid (w2.setRow W1.heap.size (enC i s nm t rt a1 ld c1 a2 ll c2 a3 lh c3 tg gr) = W3) := ⟨_, rfl⟩
    have B3 : Hid (Below W1.heap.size W1 W3) := by show Below _ _ _; rw [← HW3.out]; exact hHeld
    have X3 : Hid (W3.heap[W1.heap.size]? = some (.cells (enC i s nm t rt a1 ld c1 a2 ll c2 a3 lh c3 tg gr) 72 (0, 0))) := by show _ = _; rw [← HW3.out]; exact setRow_heap _ _ _ _ _ _ (X2)
    rw [show w2.setRow W1.heap.size (enC i s nm t rt a1 ld c1 a2 ll c2 a3 lh c3 tg gr) = W3 from HW3.out]
    obtain ⟨E, HE⟩ : ∃ E, Hid (W1.heap.size = E) := ⟨_, rfl⟩
    rw [HE.out] at X3 ⊢
    clear hHeld HW3 HE
  all_goals
    have S3 : Hid _ := blk11 B3.out S1.out
    have T3 : Hid _ := blk11 B3.out T1.out
    have C3 : Hid _ := blk11 B3.out C1.out
    have c3 : W3.cell? ⟨w.heap.size, 3, none⟩ = some (.bool true) := by rw [cell_of_row _ _ 3 _ _ _ C3.out]; rfl
    have c6 : W3.cell? ⟨w.heap.size, 6, none⟩ = some (.slice b lb cb) := by rw [cell_of_row _ _ 6 _ _ _ C3.out]; rfl
    have e3 : W3.cell? ⟨E, 3, none⟩ = some (.int .u8 t) := by rw [cell_of_row _ _ 3 _ _ _ X3.out]; rfl
    go_wp2_with fail
    refine (heed_ok _).mono ?_
    rintro r W3 ⟨rfl, rfl⟩
    go_wp2_with fail
    refine (HSZ.out _).mono ?_
    rintro r W3 ⟨rfl, rfl⟩
    go_wp2_with fail
    refine (HCM.out _ _ (K1.out.trans (Kp.of B3.out)) S3.out T3.out).mono ?_
    rintro r w4 ⟨rfl, a', c', k1, k2, k3, k4, k5⟩
    have HK : Hid (CommitPost [sp, dp, m] sp dp m A wt cg lst i s nm t rt d ld cd l ll cl h lh ch tg gr lb zb w w4) := ⟨a', c', (K1.out.more (by simp)).trans ((Kp.of B3.out).trans k1), k2, k3, k4, k5.keep11 (Nat.le_trans K1.out.size B3.out.size) (fun _ _ _ => rfl)⟩
    clear k1 k2 k3 k4 k5
    go_wp2_with fail
    go_end0
    exact ⟨rfl, HK.out⟩
#print axioms once_at

/-- A write was committed, and one frame is told. -/
def WroPost (S : List Nat) (sp dp m : Nat) (A wt cg : Int) (lst : Mp) (i s : Int) (nm : ByteArray) (t rt : Int) (d : Option Addr) (ld cd : Nat) (l : Option Addr) (ll cl : Nat) (h : Option Addr) (lh ch : Nat) (tg gr : Int) (lb : Nat) (zb : List Int) (FC : Array Value) (w : World) (r : Ending) (w' : World) : Prop :=
  ∃ g, r = .returned (.slice (some ⟨g, 0, none⟩) 1 1) ∧ w.heap.size ≤ g ∧ w'.heap[g]? = some (.cells FC 25 (0, 0)) ∧ CommitPost S sp dp m A wt cg lst i s nm t rt d ld cd l ll cl h lh ch tg gr lb zb w w'
theorem CommitPost.from {S : List Nat} {sp dp m : Nat} {A wt cg : Int} {lst : Mp} {i s : Int} {nm : ByteArray} {t rt : Int} {d : Option Addr} {ld cd : Nat} {l : Option Addr} {ll cl : Nat} {h : Option Addr} {lh ch : Nat} {tg gr : Int} {lb : Nat} {zb : List Int} {w W w' : World} (hc : CommitPost S sp dp m A wt cg lst i s nm t rt d ld cd l ll cl h lh ch tg gr lb zb W w') (k : Kp S w W) : CommitPost S sp dp m A wt cg lst i s nm t rt d ld cd l ll cl h lh ch tg gr lb zb w w' := by
  obtain ⟨a', c', k1, k2, k3, k4, k5⟩ := hc
  exact ⟨a', c', k.trans k1, k2, k3, k4, k5.keep11 k.size (fun _ _ _ => rfl)⟩
theorem CommitPost.then {S : List Nat} {sp dp m : Nat} {A wt cg : Int} {lst : Mp} {i s : Int} {nm : ByteArray} {t rt : Int} {d : Option Addr} {ld cd : Nat} {l : Option Addr} {ll cl : Nat} {h : Option Addr} {lh ch : Nat} {tg gr : Int} {lb : Nat} {zb : List Int} {w W w' : World} (hc : CommitPost S sp dp m A wt cg lst i s nm t rt d ld cd l ll cl h lh ch tg gr lb zb w W) (k : Below W.heap.size W w') : CommitPost S sp dp m A wt cg lst i s nm t rt d ld cd l ll cl h lh ch tg gr lb zb w w' := by
  obtain ⟨a', c', k1, k2, k3, k4, k5⟩ := hc
  exact ⟨a', c', k1.trans (Kp.of k), blk11 k k2, blk11 k k3, k4.next k, k5.keep11 (Nat.le_refl _) (fun g _ h => k.block g h)⟩
set_option linter.unusedSimpArgs false in
set_option maxHeartbeats 4000000 in
set_option maxRecDepth 100000 in
theorem swrite_at (sp : Nat) (A wt : Int) (dp m : Nat) (cg : Int) (lst : Mp) (i s : Int) (nm : ByteArray) (t rt : Int) (d : Option Addr) (ld cd : Nat) (l : Option Addr) (ll cl : Nat) (h : Option Addr) (lh ch : Nat) (tg gr : Int) (b : Option Addr) (lb cb : Nat) (zb : List Int) (kk nn : Int) (ct cf ck2 : Bool) (bb ee uu mm oo : Int) (FC : Array Value) (w : World) (lsp : sp < w.heap.size)
    (HO : Hid (∀ W, Below w.heap.size w W → Calls Tryz.prog 44 #[.pointer (some ⟨sp, 0, none⟩), cmV kk i s true nn true b lb cb ct cf ck2 bb ee uu mm oo] W fun e w' => e = .returned (.tuple #[]) ∧ CommitPost [sp, dp, m] sp dp m A wt cg lst i s nm t rt d ld cd l ll cl h lh ch tg gr lb zb W w'))
    (HY : Hid (∀ W, W.heap[sp]? = some (.cells (svC A dp wt none) 41 (0, 0)) → Calls Tryz.prog 21 #[.pointer (some ⟨sp, 0, none⟩), cmV 1 i s false 0 false none 0 0 false false false 0 0 0 0 0] W (OnePost W FC))) (ld' : dp < w.heap.size) (lm : m < w.heap.size) :
    Calls Tryz.prog 26 #[.pointer (some ⟨sp, 0, none⟩), cmV kk i s true nn true b lb cb ct cf ck2 bb ee uu mm oo] w (WroPost [sp, dp, m] sp dp m A wt cg lst i s nm t rt d ld cd l ll cl h lh ch tg gr lb zb FC w) := by
  go_enter Tryz.func26, Tryz.ntmps26
  go_wp2_with (refine wpList_load_by rfl 61 _ rfl ⟨w.heap.size, 0, none⟩ _ rfl (loadCM _ _ kk i s true nn true b lb cb ct cf ck2 bb ee uu mm oo _ (at11 _ _ _ rfl)) ?_)
  refine (HO.out _ (Below.al (Below.refl _ _) _)).mono ?_
  rintro r w1 ⟨rfl, hq⟩
  have HQ : Hid (CommitPost [sp, dp, m] sp dp m A wt cg lst i s nm t rt d ld cd l ll cl h lh ch tg gr lb zb w w1) := hq.from (Kp.of (Below.al (Below.refl _ _) _))
  obtain ⟨a', c', k1, k2, k3, k4, k5⟩ := hq
  have C1 : Hid (w1.heap[w.heap.size]? = some (.cells (cmC kk i s true nn true b lb cb ct cf ck2 bb ee uu mm oo) 61 (0, 0))) := k1.at (by simp; omega) (at11 _ _ _ rfl)
  have S1 : Hid _ := k2
  have p1 : w1.cell? ⟨w.heap.size, 1, none⟩ = some (.int .u16 i) := by rw [cell_of_row _ _ 1 _ _ _ C1.out]; rfl
  have p2 : w1.cell? ⟨w.heap.size, 2, none⟩ = some (.int .u8 s) := by rw [cell_of_row _ _ 2 _ _ _ C1.out]; rfl
  clear k1 k2 k3 k4 k5
  go_wp2_with fail
  refine (HY.out _ S1.out).mono ?_
  rintro r w2 ⟨g, rfl, g1, g2, g3⟩
  have G2 : Hid _ := g2
  have Q2 : Hid (CommitPost [sp, dp, m] sp dp m A wt cg lst i s nm t rt d ld cd l ll cl h lh ch tg gr lb zb w w2) := HQ.out.then g3
  have g4 : Hid (w.heap.size ≤ g) := by show _ ≤ _; obtain ⟨_, _, k1, _⟩ := HQ.out; have := k1.size; omega
  clear g1 g2 g3
  go_wp2_with fail
  go_ret
  exact ⟨g, rfl, g4.out, G2.out, Q2.out⟩
#print axioms swrite_at
end Go.Proofs.YtimnpdegoehblaaGreatDoor
namespace Go.Proofs.YtimnpdegoehblaaGreatDoor
open Go.RowKit

set_option linter.unusedSimpArgs false in
set_option maxHeartbeats 4000000 in
set_option maxRecDepth 100000 in
theorem beginRead_at (sp : Nat) (A wt : Int) (dp m : Nat) (cg : Int) (lst : Mp) (i s : Int) (nm : ByteArray) (t rt : Int) (d : Option Addr) (ld cd : Nat) (l : Option Addr) (ll cl : Nat) (h : Option Addr) (lh ch : Nat) (tg gr : Int) (v : Option Addr) (lv cv : Nat) (zd zl zh : List Int) (zv : List Int) (w : World) (hs : w.heap[sp]? = some (.cells (svC A dp wt none) 41 (0, 0))) (he : Env [sp] w dp m cg lst i s nm t rt d ld cd l ll cl h lh ch tg gr v lv cv zd zl zh) (rv : ∀ W, Kp [sp] w W → SlOk W v lv cv zv) (hlv : lv ≤ 16777216) (hr : (bits .and .u8 rt 1 != 0) = true) :
    Calls Tryz.prog 46 #[.pointer (some ⟨sp, 0, none⟩), plV i s] w fun e w' => e = .returned (.pointer (some ⟨w.heap.size + 1, 0, none⟩)) ∧ Kp [sp] w w' ∧ w'.heap[sp]? = some (.cells (svC A dp wt (some ⟨w.heap.size + 1, 0, none⟩)) 41 (0, 0)) ∧
      ∃ a' c', w'.heap[w.heap.size + 1]? = some (.cells (stC i s 0 0 false false a' lv c' false 0 0 0 0 0) 44 (0, 0)) ∧ Told w w' a' lv c' zv := by
  have HS : Hid (w.heap[sp]? = some (.cells (svC A dp wt none) 41 (0, 0))) := hs
  have ls : sp < w.heap.size := lt_of_heap hs
  have c4 : w.cell? ⟨sp, 4, none⟩ = some (.pointer none) := by rw [cell_of_row w _ 4 _ _ _ hs]; rfl
  have z4 : w.frozen? ⟨sp, 4, none⟩ = false := froz11 w sp 4 _ _ hs
  have HRD : Hid (∀ W, Kp [sp] w W → Calls Tryz.prog 84 #[.pointer (some ⟨dp, 0, none⟩), plV i s] W fun e w' => (∃ a' cap', e = .returned (.tuple #[.slice a' lv cap', .int .u32 0]) ∧ Told W w' a' lv cap' zv) ∧ Below W.heap.size W w') := fun W hk => by
    obtain ⟨e1, e2, e3, e4, e5, e6, e7⟩ := he W hk
    exact read_at dp m cg lst i s nm t rt d ld cd l ll cl h lh ch tg gr v lv cv zv W e1 e2 e7 (rv W hk) hlv hr
  clear hs he rv hlv hr
  go_enter Tryz.func46, Tryz.ntmps46
  go_wp2_with fail
  obtain ⟨W1, HW1⟩ : ∃ W1, Hid (((w.setCell ⟨sp, 4, none⟩ (.pointer (some ⟨w.heap.size + 1, 0, none⟩))).alloc (.cells #[.int .u16 i, .int .u8 s] 28)).alloc (.cells (stC i s 0 0 false false none 0 0 false 0 0 0 0 0) 44) = W1) := ⟨_, rfl⟩
  have K1 : Hid (Kp [sp] w W1) := by show Kp _ _ _; rw [← HW1.out]; exact Kp.al (Kp.al (Kp.set (Kp.refl _ _) _ _ (.inl (by simp))) _) _
  have S1 : Hid (W1.heap[sp]? = some (.cells (svC A dp wt (some ⟨w.heap.size + 1, 0, none⟩)) 41 (0, 0))) := by show _ = _; rw [← HW1.out]; exact ext11 (ext11 (heap_setCell_same _ _ _ _ _ _ HS.out))
  have P1 : Hid (W1.heap[w.heap.size]? = some (.cells #[.int .u16 i, .int .u8 s] 28 (0, 0))) := by show _ = _; rw [← HW1.out]; exact ext11 (at11 _ _ _ (by simp))
  have T1 : Hid (W1.heap[w.heap.size + 1]? = some (.cells (stC i s 0 0 false false none 0 0 false 0 0 0 0 0) 44 (0, 0))) := by show _ = _; rw [← HW1.out]; exact at11 _ _ _ (by simp)
  rw [show ((w.setCell _ _).alloc _).alloc _ = W1 from HW1.out]
  have HRE : Hid (∀ W, Below W1.heap.size W1 W → Calls Tryz.prog 84 #[.pointer (some ⟨dp, 0, none⟩), plV i s] W fun e w' => (∃ a' cap', e = .returned (.tuple #[.slice a' lv cap', .int .u32 0]) ∧ Told W w' a' lv cap' zv) ∧ Below W.heap.size W w') := fun W hb => HRD.out W (K1.out.trans (Kp.of hb))
  have lT1 : Hid (w.heap.size + 1 < W1.heap.size) := lt_of_heap T1.out
  clear HW1 c4 z4 HRD
  refine wp_region_held_drew (S := fun x => Below W1.heap.size W1 x) (by kernel_rfl) (Below.drew (Below.refl _ _)) (fun hHeld => ?_)
  refine tk 0 (.pointer (some ⟨sp, 0, none⟩)) rfl (.inl ⟨by rfl, ?_⟩) ?_
  · intro w9 hSw
    try dsimp only at hSw
    go_simp
    all_goals try decide
    all_goals try assumption
    all_goals try omega
  try simp only [Act.put, gA, gS, gZ, sA, sZ, sS]
  refine tk 1 (.pointer (some ⟨sp, 0, none⟩)) rfl (.inl ⟨by rfl, ?_⟩) ?_
  · intro w9 hSw
    try dsimp only at hSw
    go_simp
    all_goals try decide
    all_goals try assumption
    all_goals try omega
  try simp only [Act.put, gA, gS, gZ, sA, sZ, sS]
  refine tk 2 (.pointer (some ⟨sp, 1, none⟩)) rfl (.inl ⟨by rfl, ?_⟩) ?_
  · intro w9 hSw
    try dsimp only at hSw
    go_simp
    all_goals try decide
    all_goals try assumption
    all_goals try omega
  try simp only [Act.put, gA, gS, gZ, sA, sZ, sS]
  refine tk 3 (.pointer (some ⟨dp, 0, none⟩)) rfl (.inl ⟨by rfl, ?_⟩) ?_
  · intro w9 hSw
    try dsimp only at hSw
    have c0 : w9.cell? ⟨sp, 1, none⟩ = some (.pointer (some ⟨dp, 0, none⟩)) := by rw [cell_of_row _ _ 1 _ _ _ (blk11 hSw S1.out)]; rfl
    go_simp
    all_goals try assumption
  try simp only [Act.put, gA, gS, gZ, sA, sZ, sS]
  refine tk 4 (plV i s) rfl (.inl ⟨by rfl, ?_⟩) ?_
  · intro w9 hSw
    try dsimp only at hSw
    exact ex_load11 28 (.tmp 3) rfl _ _ rfl (load_part 28 2 sizeP aggP _ (w.heap.size) 0 [.int .u16 i, .int .u8 s] _ (blk11 hSw P1.out) (by simp))
  try simp only [Act.put, gA, gS, gZ, sA, sZ, sS]
  refine wpAnyH_ready (rs := [5]) (by kernel_rfl) (by simp) ?_
  refine AllReadyH.cons rfl (fun K' hK => ?_) AllReadyH.nil
  rw [if_pos (by rfl)]
  simp only [gA, gS, gZ]
  go_wp2_with fail
  refine (HRE.out _ hHeld).mono ?_
  rintro r w2 ⟨⟨a', c', rfl, ht2⟩, hbx⟩
  have T2 : Hid (Told W1.drew w2 a' lv c' zv) := ht2
  clear ht2
  try go_wp2_with fail
  refine hK.out _ _ (Below.andThen hHeld hbx) (fun hHeld => ?_)
  clear hK K'
  try simp only [Act.put, gA, gS, gZ, sA, sZ, sS]
  refine tk 6 (.tuple #[.slice a' lv c', .int .u32 0]) rfl (.inl ⟨by rfl, ?_⟩) ?_
  · intro w9 hSw
    try dsimp only at hSw
    go_simp
    all_goals try decide
    all_goals try assumption
    all_goals try omega
  try simp only [Act.put, gA, gS, gZ, sA, sZ, sS]
  refine tk 7 (.slice a' lv c') rfl (.inl ⟨by rfl, ?_⟩) ?_
  · intro w9 hSw
    try dsimp only at hSw
    go_simp
    all_goals try decide
    all_goals try assumption
    all_goals try omega
  try simp only [Act.put, gA, gS, gZ, sA, sZ, sS]
  refine tk 8 (.int .u32 0) rfl (.inl ⟨by rfl, ?_⟩) ?_
  · intro w9 hSw
    try dsimp only at hSw
    go_simp
    all_goals try decide
    all_goals try assumption
    all_goals try omega
  try simp only [Act.put, gA, gS, gZ, sA, sZ, sS]
  refine tk 9 (.slice a' lv c') rfl (.inl ⟨by rfl, ?_⟩) ?_
  · intro w9 hSw
    try dsimp only at hSw
    go_simp
    all_goals try decide
    all_goals try assumption
    all_goals try omega
  try simp only [Act.put, gA, gS, gZ, sA, sZ, sS]
  refine tk 10 (.int .u32 0) rfl (.inl ⟨by rfl, ?_⟩) ?_
  · intro w9 hSw
    try dsimp only at hSw
    go_simp
    all_goals try decide
    all_goals try assumption
    all_goals try omega
  try simp only [Act.put, gA, gS, gZ, sA, sZ, sS]
  refine wpAnyH_done (by kernel_rfl) ?_ _
  have B2 : Hid (Below W1.heap.size W1 w2) := hHeld
  have X2 : Hid (w2.heap[w.heap.size + 1]? = some (.cells (stC i s 0 0 false false none 0 0 false 0 0 0 0 0) 44 (0, 0))) := blk11 B2.out T1.out
  clear hHeld
  go_wp2_with fail
  refine (heed_ok _).mono ?_
  rintro r w2 ⟨rfl, rfl⟩
  go_wp2_with (refine wpList_store_by rfl 42 _ _ rfl ⟨w.heap.size + 1, 6, none⟩ _ rfl rfl (store_sl _ sizeSl _ (w.heap.size + 1) 6 a' lv c' _ _ X2.out (by simp)) ?_)
  go_ret
  have K3 : Kp [w.heap.size + 1] w2 (w2.setRow (w.heap.size + 1) (stC i s 0 0 false false a' lv c' false 0 0 0 0 0)) := Kp.row (Kp.refl _ _) _ _ (.inl (by simp))
  refine ⟨rfl, (K1.out.trans (Kp.of B2.out)).fresh K3 (by simp), K3.at (by simp; omega) (blk11 B2.out S1.out), a', c', setRow_heap _ _ _ _ _ _ X2.out, T2.out.keep11 K1.out.size (fun g h1 _ => setRow_other _ _ _ _ ?_)⟩
  have := lT1.out
  have h1' : W1.heap.size ≤ g := h1
  omega
#print axioms beginRead_at

/-- A value was told in one frame. -/
def TolPost (sp dp : Nat) (A wt : Int) (FC : Array Value) (w : World) (r : Ending) (w' : World) : Prop :=
  ∃ g, r = .returned (.slice (some ⟨g, 0, none⟩) 1 1) ∧ w.heap.size ≤ g ∧ w'.heap[g]? = some (.cells FC 25 (0, 0)) ∧ Kp [sp] w w' ∧ w'.heap[sp]? = some (.cells (svC A dp wt none) 41 (0, 0))
set_option linter.unusedSimpArgs false in
set_option maxHeartbeats 4000000 in
set_option maxRecDepth 100000 in
theorem sread_at (sp : Nat) (A wt : Int) (dp : Nat) (i s : Int) (lv : Nat) (zv : List Int) (kk nn : Int) (b : Option Addr) (lb cb : Nat) (ct cf ck2 : Bool) (bb ee uu mm oo : Int) (FC : Array Value) (w : World) (lsp : sp < w.heap.size) (l1 : 1 ≤ lv) (l4 : lv ≤ 4)
    (HB : Hid (∀ W, Below w.heap.size w W → Calls Tryz.prog 46 #[.pointer (some ⟨sp, 0, none⟩), plV i s] W fun e w' => e = .returned (.pointer (some ⟨W.heap.size + 1, 0, none⟩)) ∧ Kp [sp] W w' ∧ w'.heap[sp]? = some (.cells (svC A dp wt (some ⟨W.heap.size + 1, 0, none⟩)) 41 (0, 0)) ∧
      ∃ a' c', w'.heap[W.heap.size + 1]? = some (.cells (stC i s 0 0 false false a' lv c' false 0 0 0 0 0) 44 (0, 0)) ∧ Told W w' a' lv c' zv))
    (HY : Hid (∀ W a' c', W.heap[sp]? = some (.cells (svC A dp wt none) 41 (0, 0)) → Row W a' lv zv → Calls Tryz.prog 21 #[.pointer (some ⟨sp, 0, none⟩), cmV 3 i s true 0 true a' lv c' false false false 0 0 0 0 0] W (OnePost W FC))) :
    Calls Tryz.prog 27 #[.pointer (some ⟨sp, 0, none⟩), cmV kk i s false nn false b lb cb ct cf ck2 bb ee uu mm oo] w (TolPost sp dp A wt FC w) := by
  have b1 : ¬ (lv : Int) < 1 := by omega
  have b4 : ¬ (4 : Int) < (lv : Int) := by omega
  go_enter Tryz.func27, Tryz.ntmps27
  go_wp2_with fail
  refine (HB.out _ (Below.al (Below.refl _ _) _)).mono ?_
  rintro r w1 ⟨rfl, k1, k2, a', c', k3, k4⟩
  have hz : (w.alloc (.cells (cmC kk i s false nn false b lb cb ct cf ck2 bb ee uu mm oo) 61)).heap.size + 1 = w.heap.size + 1 + 1 := by simp
  rw [hz] at k2 k3
  have K1 : Hid (Kp [sp] w w1) := (Kp.of (Below.al (Below.refl _ _) _)).trans k1
  have C1 : Hid (w1.heap[w.heap.size]? = some (.cells (cmC kk i s false nn false b lb cb ct cf ck2 bb ee uu mm oo) 61 (0, 0))) := k1.at (by simp; omega) (at11 _ _ _ rfl)
  have S1 : Hid _ := k2
  have T1 : Hid _ := k3
  have TD : Hid (Told _ w1 a' lv c' zv) := k4
  have t6 : w1.cell? ⟨w.heap.size + 1 + 1, 6, none⟩ = some (.slice a' lv c') := by rw [cell_of_row _ _ 6 _ _ _ T1.out]; rfl
  have c4 : w1.cell? ⟨sp, 4, none⟩ = some (.pointer (some ⟨w.heap.size + 1 + 1, 0, none⟩)) := by rw [cell_of_row _ _ 4 _ _ _ S1.out]; rfl
  have z4 : w1.frozen? ⟨sp, 4, none⟩ = false := froz11 _ sp 4 _ _ S1.out
  clear k1 k2 k3 k4 hz
  go_wp2_with fail
  obtain ⟨W2, HW2⟩ : ∃ W2, Hid (w1.setCell ⟨sp, 4, none⟩ (.pointer none) = W2) := ⟨_, rfl⟩
  have K12 : Hid (Kp [sp] w1 W2) := by show Kp _ _ _; rw [← HW2.out]; exact Kp.set (Kp.refl _ _) _ _ (.inl (by simp))
  have S2 : Hid (W2.heap[sp]? = some (.cells (svC A dp wt none) 41 (0, 0))) := by show _ = _; rw [← HW2.out]; exact heap_setCell_same _ _ _ _ _ _ S1.out
  have C2 : Hid (W2.heap[w.heap.size]? = some (.cells (cmC kk i s false nn false b lb cb ct cf ck2 bb ee uu mm oo) 61 (0, 0))) := K12.out.at (by simp; omega) C1.out
  have T2 : Hid (W2.heap[w.heap.size + 1 + 1]? = some (.cells (stC i s 0 0 false false a' lv c' false 0 0 0 0 0) 44 (0, 0))) := K12.out.at (by simp; omega) T1.out
  have R2 : Hid (Row W2 a' lv zv) := TD.out.row.kps K12.out (fun hl b off e hb => by
    obtain ⟨g0, e', hg, _⟩ := TD.out.own hl
    rw [e] at e'
    cases e'
    simp at hb hg
    omega)
  rw [HW2.out]
  clear HW2 t6 c4 z4
  refine wp_region_held_drew (S := fun x => Below W2.heap.size W2 x) (by kernel_rfl) (Below.drew (Below.refl _ _)) (fun hHeld => ?_)
  refine tk 0 (.pointer (some ⟨sp, 0, none⟩)) rfl (.inl ⟨by rfl, ?_⟩) ?_
  · intro w9 hSw
    try dsimp only at hSw
    go_simp
    all_goals try decide
    all_goals try assumption
    all_goals try omega
  try simp only [Act.put, gA, gS, gZ, sA, sZ, sS]
  refine tk 1 (.pointer (some ⟨w.heap.size, 1, none⟩)) rfl (.inl ⟨by rfl, ?_⟩) ?_
  · intro w9 hSw
    try dsimp only at hSw
    go_simp
    all_goals try decide
    all_goals try assumption
    all_goals try omega
  try simp only [Act.put, gA, gS, gZ, sA, sZ, sS]
  refine tk 2 (plV i s) rfl (.inl ⟨by rfl, ?_⟩) ?_
  · intro w9 hSw
    try dsimp only at hSw
    exact ex_load11 28 (.tmp 36) rfl _ _ rfl (load_part 28 2 sizeP aggP _ (w.heap.size) 1 [.int .u8 kk, .int .u16 i, .int .u8 s, .bool false, .int .u32 nn, .bool false, .slice b lb cb, .bool ct, .bool cf, .bool ck2, .int .i64 bb, .int .i64 ee, .int .u16 uu, .int .i64 mm, .int .u32 oo] _ (blk11 hSw C2.out) (by simp))
  try simp only [Act.put, gA, gS, gZ, sA, sZ, sS]
  refine tk 3 (.pointer (some ⟨w.heap.size + 1 + 1, 0, none⟩)) rfl (.inl ⟨by rfl, ?_⟩) ?_
  · intro w9 hSw
    try dsimp only at hSw
    go_simp
    all_goals try decide
    all_goals try assumption
    all_goals try omega
  try simp only [Act.put, gA, gS, gZ, sA, sZ, sS]
  refine tk 4 (.pointer (some ⟨w.heap.size + 1 + 1, 0, none⟩)) rfl (.inl ⟨by rfl, ?_⟩) ?_
  · intro w9 hSw
    try dsimp only at hSw
    go_simp
    all_goals try decide
    all_goals try assumption
    all_goals try omega
  try simp only [Act.put, gA, gS, gZ, sA, sZ, sS]
  refine tk 5 (.pointer (some ⟨w.heap.size + 1 + 1, 6, none⟩)) rfl (.inl ⟨by rfl, ?_⟩) ?_
  · intro w9 hSw
    try dsimp only at hSw
    go_simp
    all_goals try decide
    all_goals try assumption
    all_goals try omega
  try simp only [Act.put, gA, gS, gZ, sA, sZ, sS]
  refine tk 6 (.slice a' lv c') rfl (.inl ⟨by rfl, ?_⟩) ?_
  · intro w9 hSw
    try dsimp only at hSw
    have c0 : w9.cell? ⟨w.heap.size + 1 + 1, 6, none⟩ = some (.slice a' lv c') := by rw [cell_of_row _ _ 6 _ _ _ (blk11 hSw T2.out)]; rfl
    go_simp
    all_goals try assumption
  try simp only [Act.put, gA, gS, gZ, sA, sZ, sS]
  refine tk 7 (cmV 3 i s true 0 true a' lv c' false false false 0 0 0 0 0) rfl (.inl ⟨by rfl, ?_⟩) ?_
  · intro w9 hSw
    try dsimp only at hSw
    go_simp
    all_goals try decide
    all_goals try assumption
    all_goals try omega
  try simp only [Act.put, gA, gS, gZ, sA, sZ, sS]
  refine wpAnyH_ready (rs := [8]) (by kernel_rfl) (by simp) ?_
  refine AllReadyH.cons rfl (fun K' hK => ?_) AllReadyH.nil
  rw [if_pos (by rfl)]
  simp only [gA, gS, gZ]
  go_wp2_with fail
  refine (HY.out _ a' c' (blk11 hHeld S2.out) (R2.out.next hHeld)).mono ?_
  rintro r w3 ⟨g, rfl, g1, g2, hbx⟩
  have G3 : Hid _ := g2
  have g4 : Hid (W2.heap.size ≤ g) := Nat.le_trans (show W2.heap.size ≤ W2.drew.heap.size from Nat.le_refl _) g1
  clear g1 g2
  try go_wp2_with fail
  refine hK.out _ _ (Below.andThen hHeld hbx) (fun hHeld => ?_)
  clear hK K'
  try simp only [Act.put, gA, gS, gZ, sA, sZ, sS]
  refine tk 9 (.slice (some ⟨g, 0, none⟩) 1 1) rfl (.inl ⟨by rfl, ?_⟩) ?_
  · intro w9 hSw
    try dsimp only at hSw
    go_simp
    all_goals try decide
    all_goals try assumption
    all_goals try omega
  try simp only [Act.put, gA, gS, gZ, sA, sZ, sS]
  refine wpAnyH_done (by kernel_rfl) ?_ _
  have B3 : Hid (Below W2.heap.size W2 w3) := hHeld
  clear hHeld
  go_wp2_with fail
  go_ret
  exact ⟨g, rfl, Nat.le_trans (Nat.le_trans K1.out.size K12.out.size) g4.out, G3.out, (K1.out.trans K12.out).trans (Kp.of B3.out), blk11 B3.out S2.out⟩
#print axioms sread_at
end Go.Proofs.YtimnpdegoehblaaGreatDoor
namespace Go.Proofs.YtimnpdegoehblaaGreatDoor
open Go.RowKit

set_option linter.unusedSimpArgs false in
set_option maxHeartbeats 4000000 in
set_option maxRecDepth 100000 in
theorem sfollow_1 (sp dp : Nat) (A wt : Int) (m : Nat) (cg : Int) (lst : Mp) (i s : Int) (nm : ByteArray) (t rt : Int) (d : Option Addr) (ld cd : Nat) (l : Option Addr) (ll cl : Nat) (h : Option Addr) (lh ch : Nat) (tg gr : Int) (lb : Nat) (zb : List Int) (FC : Array Value) (b0 b1 b2 b3 b4 b5 b6 b7 : Int) (w : World) (hs : w.heap[sp]? = some (.cells (svC A dp wt none) 41 (0, 0)))
    (HA : Hid (∀ W, Below w.heap.size w W → Calls Tryz.prog 24 #[arr8 b0 b1 b2 b3 b4 b5 b6 b7] W fun e w' => ∃ b cb, e = .returned (.tuple #[cmV 1 i s true 0 true b lb cb false false false 0 0 0 0 0, .int .i64 0]) ∧ Told W w' b lb cb zb ∧ Below W.heap.size W w'))
    (HW : Hid (∀ W b cb, Below w.heap.size w W → (∀ W', Kp [sp] W W' → SlOk W' b lb cb zb) → Calls Tryz.prog 26 #[.pointer (some ⟨sp, 0, none⟩), cmV 1 i s true 0 true b lb cb false false false 0 0 0 0 0] W (WroPost [sp, dp, m] sp dp m A wt cg lst i s nm t rt d ld cd l ll cl h lh ch tg gr lb zb FC W))) :
    Calls Tryz.prog 13 #[.pointer (some ⟨sp, 0, none⟩), arr8 b0 b1 b2 b3 b4 b5 b6 b7] w (WroPost [sp, dp, m] sp dp m A wt cg lst i s nm t rt d ld cd l ll cl h lh ch tg gr lb zb FC w) := by
  have HS : Hid (w.heap[sp]? = some (.cells (svC A dp wt none) 41 (0, 0))) := hs
  have ls : sp < w.heap.size := lt_of_heap hs
  clear hs
  go_enter Tryz.func13, Tryz.ntmps13
  go_wp2_with fail
  refine (waitsFor_no sp A wt dp 255 _ (ext11 HS.out)).mono ?_
  rintro r w9 ⟨rfl, rfl⟩
  go_wp2_with (refine wpList_load_by rfl 23 _ rfl ⟨w.heap.size, 0, none⟩ _ rfl (load8 _ _ b0 b1 b2 b3 b4 b5 b6 b7 _ (at11 _ _ _ rfl)) ?_)
  refine (HA.out _ (Below.al (Below.refl _ _) _)).mono ?_
  rintro r w1 ⟨b, cb, rfl, htd, hb⟩
  have TD : Hid (Told _ w1 b lb cb zb) := htd
  have B1 : Hid (Below w.heap.size w w1) := Below.andThen (Below.al (Below.refl _ _) _) hb
  clear hb
  go_wp2_with fail
  refine (smust_ok _ _).mono ?_
  rintro r w9 ⟨rfl, rfl⟩
  go_wp2_with (refine wpList_load_by rfl 61 _ rfl ⟨w1.heap.size, 0, none⟩ _ rfl (loadCM _ _ 1 i s true 0 true b lb cb false false false 0 0 0 0 0 _ (at11 _ _ _ rfl)) ?_)
  refine (HW.out _ b cb (Below.al B1.out _) (fun W' hk => ⟨TD.out.row.next (Below.al (Below.refl _ _) _) |>.kps hk (fun hl b' off e hb => by obtain ⟨g0, e', hg, _⟩ := TD.out.own hl; rw [e] at e'; cases e'; simp at hb hg; omega), TD.out.le, TD.out.max⟩)).mono ?_
  rintro r w3 ⟨g, rfl, g1, g2, g3⟩
  have G3 : Hid _ := g2
  have Q3 : Hid (CommitPost [sp, dp, m] sp dp m A wt cg lst i s nm t rt d ld cd l ll cl h lh ch tg gr lb zb w w3) := g3.from (Kp.of (Below.al B1.out _))
  have g4 : Hid (w.heap.size ≤ g) := Nat.le_trans (Nat.le_trans B1.out.size (by simp)) g1
  clear g1 g2 g3
  go_wp2_with fail
  go_ret
  exact ⟨g, rfl, g4.out, G3.out, Q3.out⟩

set_option linter.unusedSimpArgs false in
set_option maxHeartbeats 4000000 in
set_option maxRecDepth 100000 in
theorem sfollow_3 (sp dp : Nat) (A wt : Int) (i s : Int) (FC : Array Value) (b0 b1 b2 b3 b4 b5 b6 b7 : Int) (w : World) (hs : w.heap[sp]? = some (.cells (svC A dp wt none) 41 (0, 0)))
    (HA : Hid (∀ W, Below w.heap.size w W → Calls Tryz.prog 24 #[arr8 b0 b1 b2 b3 b4 b5 b6 b7] W fun e w' => ∃ b cb, e = .returned (.tuple #[cmV 3 i s false 0 false b 0 cb false false false 0 0 0 0 0, .int .i64 0]) ∧ Below W.heap.size W w'))
    (HW : Hid (∀ W b cb, Below w.heap.size w W → Calls Tryz.prog 27 #[.pointer (some ⟨sp, 0, none⟩), cmV 3 i s false 0 false b 0 cb false false false 0 0 0 0 0] W (TolPost sp dp A wt FC W))) :
    Calls Tryz.prog 13 #[.pointer (some ⟨sp, 0, none⟩), arr8 b0 b1 b2 b3 b4 b5 b6 b7] w (TolPost sp dp A wt FC w) := by
  have HS : Hid (w.heap[sp]? = some (.cells (svC A dp wt none) 41 (0, 0))) := hs
  have ls : sp < w.heap.size := lt_of_heap hs
  clear hs
  go_enter Tryz.func13, Tryz.ntmps13
  go_wp2_with fail
  refine (waitsFor_no sp A wt dp 255 _ (ext11 HS.out)).mono ?_
  rintro r w9 ⟨rfl, rfl⟩
  go_wp2_with (refine wpList_load_by rfl 23 _ rfl ⟨w.heap.size, 0, none⟩ _ rfl (load8 _ _ b0 b1 b2 b3 b4 b5 b6 b7 _ (at11 _ _ _ rfl)) ?_)
  refine (HA.out _ (Below.al (Below.refl _ _) _)).mono ?_
  rintro r w1 ⟨b, cb, rfl, hb⟩
  have B1 : Hid (Below w.heap.size w w1) := Below.andThen (Below.al (Below.refl _ _) _) hb
  clear hb
  go_wp2_with fail
  refine (smust_ok _ _).mono ?_
  rintro r w9 ⟨rfl, rfl⟩
  go_wp2_with (refine wpList_load_by rfl 61 _ rfl ⟨w1.heap.size, 0, none⟩ _ rfl (loadCM _ _ 3 i s false 0 false b 0 cb false false false 0 0 0 0 0 _ (at11 _ _ _ rfl)) ?_)
  refine (HW.out _ b cb (Below.al B1.out _)).mono ?_
  rintro r w3 ⟨g, rfl, g1, g2, g3, g5⟩
  have G3 : Hid _ := g2
  have K3 : Hid (Kp [sp] w w3) := (Kp.of (Below.al B1.out _)).trans g3
  have S3 : Hid _ := g5
  have g4 : Hid (w.heap.size ≤ g) := Nat.le_trans (Nat.le_trans B1.out.size (by simp)) g1
  clear g1 g2 g3 g5
  go_wp2_with fail
  go_ret
  exact ⟨g, rfl, g4.out, G3.out, K3.out, S3.out⟩

end Go.Proofs.YtimnpdegoehblaaGreatDoor
namespace Go.Proofs.YtimnpdegoehblaaGreatDoor
open Go.RowKit

theorem load9_g {ops : Array Oper} {rest : List Oper} {o : Oper} {a : Act} {w : World} {Q : Exit → Act → World → Prop} (ty : TypeId) (x : Operand) (ho : o.op = .load ty x)
    (ad : Addr) (v : Value) (hx : a.eval x = .pointer (some ad)) (hr : (loadVar ty ad).run Tryz.prog w = .ok v w)
    (h : wpList Tryz.prog ops Q rest (a.put o.dst v) w) (hw : Region.wanted o (yielded ops a.tmps) = true := by rfl) : wpList Tryz.prog ops Q (o :: rest) a w :=
  wpList_step fun _ hK => by rw [if_pos hw]; exact wp_load_by ty x ho ad v hx hr (hK _ _ h)


theorem neq_nil (w : World) : (binOp .neq 20 .nilIface .nilIface).run Tryz.prog w = .ok (.bool false) w := by kernel_rfl
set_option linter.unusedSimpArgs false in
set_option maxHeartbeats 4000000 in
set_option maxRecDepth 100000 in
theorem sidle (p q : Addr) (w : World) :
    CallsD Tryz.prog 10 #[.pointer (some p), .pointer (some q)] .returning w fun e u' w' => e = .returned (.tuple #[]) ∧ u' = .returning ∧ w' = w := by
  refine callsD_of_wpS Tryz.func10 rfl fun c₀ cs hu => ?_
  apply wpS_seq
  apply wpS_region
  simp [wpOpsS, go_sem, recoverD, hu, Tryz.ntmps10, Exit.thenS]
  apply wpS_seq
  apply wpS_region
  simp [wpOpsS, go_sem, Exit.thenS, neq_nil]
  refine wpS_cond (t := false) (by simp [Act.eval, Array.replicate]) ?_
  simp only [Bool.false_eq_true, if_false]
  refine wpS_of_wp (wp_skip ?_)
  cases c₀
  simp_all [bodyPostS, results, Tryz.results10]
/-- What following a frame comes to. -/
def FolPost (sp dp : Nat) (A wt : Int) (F : World → Nat → World → Prop) (w0 W : World) (r : Ending) (w' : World) : Prop :=
  ∃ g, r = .returned (.slice (some ⟨g, 0, none⟩) 1 1) ∧ W.heap.size ≤ g ∧ w'.heap[sp]? = some (.cells (svC A dp wt none) 41 (0, 0)) ∧ W.heap.size ≤ w'.heap.size ∧ (∀ j, w0.heap.size ≤ j → j < W.heap.size → w'.heap[j]? = W.heap[j]?) ∧ F W g w'
set_option linter.unusedSimpArgs false in
set_option maxHeartbeats 4000000 in
set_option maxRecDepth 100000 in
theorem shear_at (sp dp : Nat) (A wt : Int) (F : World → Nat → World → Prop) (b0 b1 b2 b3 b4 b5 b6 b7 now : Int) (w : World) (hs : w.heap[sp]? = some (.cells (svC A dp wt none) 41 (0, 0))) (hA0 : 0 ≤ A) (hA : A ≤ 127) (ho : Oct [b0, b1, b2, b3, b4, b5, b6, b7])
    (HF : Hid (∀ W, Below w.heap.size w W → Calls Tryz.prog 13 #[.pointer (some ⟨sp, 0, none⟩), arr8 b0 b1 b2 b3 b4 b5 b6 b7] W (FolPost sp dp A wt F w W))) :
    Calls Tryz.prog 6 #[.pointer (some ⟨sp, 0, none⟩), frV (1536 + A) 8 b0 b1 b2 b3 b4 b5 b6 b7 false, .int .i64 now] w fun e w' => ∃ W w1 g, e = .returned (.slice (some ⟨g, 0, none⟩) 1 1) ∧ Below w.heap.size w W ∧ w.heap.size + 1 + 1 < W.heap.size ∧ W.heap.size ≤ g ∧ F W g w1 ∧ Kp [w.heap.size + 1 + 1] w1 w' := by
  have hmf : ∀ (fn : Fn) (first cap : Array Value) (w : World), (Instr.makeFunc fn first cap).run Tryz.prog w = .ok (.func fn first cap) w := fun _ _ _ _ => rfl
  have HS : Hid (w.heap[sp]? = some (.cells (svC A dp wt none) 41 (0, 0))) := hs
  have ls : sp < w.heap.size := lt_of_heap hs
  have HM : Hid (∀ W, W.heap[sp]? = some (.cells (svC A dp wt none) 41 (0, 0)) → Calls Tryz.prog 9 #[.pointer (some ⟨sp, 0, none⟩), frV (1536 + A) 8 b0 b1 b2 b3 b4 b5 b6 b7 false] W fun e w' => e = .returned (.bool true) ∧ Below W.heap.size W w') := fun W h => sMeant_yes sp A wt dp _ b0 b1 b2 b3 b4 b5 b6 b7 W h hA0 hA ho
  clear hs ho
  go_enter_defers Tryz.func6, Tryz.ntmps6
  go_wp2_with (refine load9_g 25 _ rfl ⟨w.heap.size + 1, 0, none⟩ _ rfl (loadF _ _ (1536 + A) 8 b0 b1 b2 b3 b4 b5 b6 b7 false _ (ext11 (at11 _ _ _ (by simp)))) ?_)
  refine (HM.out _ (ext11 (ext11 (ext11 HS.out)))).mono ?_
  rintro r w1 ⟨rfl, hb⟩
  have B1 : Hid (Below w.heap.size w w1) := Below.andThen (by repeat (first | exact Below.refl _ _ | apply Below.drew | apply Below.al)) hb
  have S1 : Hid _ := blk11 B1.out HS.out
  have BX1 : Hid (w1.heap[w.heap.size]? = some (.cells #[.pointer (some ⟨sp, 0, none⟩)] 26 (0, 0))) := blk11 hb (ext11 (ext11 (at11 _ _ _ rfl)))
  have FX1 : Hid (w1.heap[w.heap.size + 1]? = some (.cells (frC (1536 + A) 8 b0 b1 b2 b3 b4 b5 b6 b7 false) 25 (0, 0))) := blk11 hb (ext11 (at11 _ _ _ (by simp)))
  have RX1 : Hid (w1.heap[w.heap.size + 1 + 1]? = some (.cells #[.slice none 0 0] 31 (0, 0))) := blk11 hb (at11 _ _ _ (by simp))
  have LR1 : Hid (w.heap.size + 1 + 1 < w1.heap.size) := lt_of_heap RX1.out
  have bx1 : w1.cell? ⟨w.heap.size, 0, none⟩ = some (.pointer (some ⟨sp, 0, none⟩)) := by rw [cell_of_row _ _ 0 _ _ _ BX1.out]; rfl
  clear hb
  go_wp2_with (refine wpList_load_by rfl 23 _ rfl ⟨w.heap.size + 1, 2, none⟩ (arr8 b0 b1 b2 b3 b4 b5 b6 b7) rfl (load_part 23 8 size8 agg8 _ (w.heap.size + 1) 2 [.int .u16 (1536 + A), .int .i64 8, .int .u8 b0, .int .u8 b1, .int .u8 b2, .int .u8 b3, .int .u8 b4, .int .u8 b5, .int .u8 b6, .int .u8 b7, .bool false] _ FX1.out (by simp)) ?_)
  refine (HF.out _ B1.out).mono ?_
  rintro r w2 ⟨g, rfl, g1, g2, g3, g4, g5⟩
  have S2 : Hid _ := g2
  have G1 : Hid _ := g1
  have F2 : Hid (F w1 g w2) := g5
  have BX2 : Hid (w2.heap[w.heap.size]? = some (.cells #[.pointer (some ⟨sp, 0, none⟩)] 26 (0, 0))) := (g4 _ (Nat.le_refl _) (lt_of_heap BX1.out)).trans BX1.out
  have RX2 : Hid (w2.heap[w.heap.size + 1 + 1]? = some (.cells #[.slice none 0 0] 31 (0, 0))) := (g4 _ (by omega) LR1.out).trans RX1.out
  have bx2 : w2.cell? ⟨w.heap.size, 0, none⟩ = some (.pointer (some ⟨sp, 0, none⟩)) := by rw [cell_of_row _ _ 0 _ _ _ BX2.out]; rfl
  have q0 : w2.cell? ⟨w.heap.size + 1 + 1, 0, none⟩ = some (.slice none 0 0) := by rw [cell_of_row _ _ 0 _ _ _ RX2.out]; rfl
  have z0 : w2.frozen? ⟨w.heap.size + 1 + 1, 0, none⟩ = false := froz11 _ _ 0 _ _ RX2.out
  have s4 : w2.cell? ⟨sp, 4, none⟩ = some (.pointer none) := by rw [cell_of_row _ _ 4 _ _ _ S2.out]; rfl
  clear g1 g2 g3 g4 g5 bx1
  go_wp2_with fail
  refine leaves_cons (f := 10) (args := #[.pointer (some ⟨w.heap.size, 0, none⟩), .pointer (some ⟨w.heap.size + 1 + 1, 0, none⟩)]) (by simp) (by simp [go_sem]) ?_
  refine (sidle _ _ _).mono ?_
  rintro e u' w'' ⟨rfl, rfl, rfl⟩
  obtain ⟨W3, HW3⟩ : ∃ W3, Hid (w2.setCell ⟨w.heap.size + 1 + 1, 0, none⟩ (.slice (some ⟨g, 0, none⟩) 1 1) = W3) := ⟨_, rfl⟩
  have q3 : W3.cell? ⟨w.heap.size + 1 + 1, 0, none⟩ = some (.slice (some ⟨g, 0, none⟩) 1 1) := by rw [← HW3.out]; exact World.cell?_setCell_same _ _ _ q0
  rw [HW3.out]
  obtain ⟨W4, HW4⟩ : ∃ W4, Hid (W3.setCell ⟨w.heap.size + 1 + 1, 0, none⟩ (.slice (some ⟨g, 0, none⟩) 1 1) = W4) := ⟨_, rfl⟩
  have q4 : W4.cell? ⟨w.heap.size + 1 + 1, 0, none⟩ = some (.slice (some ⟨g, 0, none⟩) 1 1) := by rw [← HW4.out]; exact World.cell?_setCell_same _ _ _ q3
  have K4 : Hid (Kp [w.heap.size + 1 + 1] w2 W4) := by
    show Kp _ _ _
    rw [← HW4.out, ← HW3.out]
    exact Kp.set (Kp.set (Kp.refl _ _) _ _ (.inl (by simp))) _ _ (.inl (by simp))
  rw [HW4.out]
  simp only [Leaves, settle]
  refine ⟨(.slice (some ⟨g, 0, none⟩) 1 1), by simp [results, Tryz.results6, go_sem, q4], ?_⟩
  exact ⟨w1, w2, g, rfl, B1.out, LR1.out, G1.out, F2.out, K4.out⟩
end Go.Proofs.YtimnpdegoehblaaGreatDoor
namespace Go.Proofs.YtimnpdegoehblaaGreatDoor
open Go.RowKit

def exE (n : Nat) : List Em := [⟨8192, 1, ⟨#[]⟩, 5, 3, some ⟨n, 0, none⟩, 1, 1, some ⟨n + 1, 0, none⟩, 1, 1, some ⟨n + 1 + 1, 0, none⟩, 1, 1, 3, 0, [5], [1], [9]⟩, ⟨8192, 0, ⟨#[]⟩, 5, 1, some ⟨n + 1 + 1 + 1, 0, none⟩, 1, 1, none, 0, 0, none, 0, 0, 0, 0, [1], [], []⟩, ⟨8194, 0, ⟨#[]⟩, 9, 3, some ⟨n + 1 + 1 + 1 + 1, 0, none⟩, 20, 20, none, 0, 0, none, 0, 0, 0, 0, [97, 32, 116, 101, 120, 116, 32, 111, 102, 32, 116, 119, 101, 110, 116, 121, 32, 111, 110, 101], [], []⟩, ⟨8195, 0, ⟨#[]⟩, 22, 2, none, 0, 0, none, 0, 0, none, 0, 0, 0, 0, [], [], []⟩, ⟨8196, 0, ⟨#[]⟩, 15, 3, none, 0, 0, none, 0, 0, none, 0, 0, 1, 0, [], [], []⟩]
/-- The five rows of bytes. -/
def exB (w : World) : World := (((((w.alloc (.cells #[.int .u8 5] 5)).alloc (.cells #[.int .u8 1] 5)).alloc (.cells #[.int .u8 9] 5)).alloc (.cells #[.int .u8 1] 5)).alloc (.cells #[.int .u8 97, .int .u8 32, .int .u8 116, .int .u8 101, .int .u8 120, .int .u8 116, .int .u8 32, .int .u8 111, .int .u8 102, .int .u8 32, .int .u8 116, .int .u8 119, .int .u8 101, .int .u8 110, .int .u8 116, .int .u8 121, .int .u8 32, .int .u8 111, .int .u8 110, .int .u8 101] 5 (20, 21)))
/-- The entries' cells. -/
def exC (n : Nat) : Array Value := #[.int .u16 8192, .int .u8 1, .string ⟨#[]⟩, .int .u8 5, .int .u8 3, .slice (some ⟨n, 0, none⟩) 1 1, .slice (some ⟨n + 1, 0, none⟩) 1 1, .slice (some ⟨n + 1 + 1, 0, none⟩) 1 1, .int .u8 3, .int .u8 0, .int .u16 8192, .int .u8 0, .string ⟨#[]⟩, .int .u8 5, .int .u8 1, .slice (some ⟨n + 1 + 1 + 1, 0, none⟩) 1 1, .slice none 0 0, .slice none 0 0, .int .u8 0, .int .u8 0, .int .u16 8194, .int .u8 0, .string ⟨#[]⟩, .int .u8 9, .int .u8 3, .slice (some ⟨n + 1 + 1 + 1 + 1, 0, none⟩) 20 20, .slice none 0 0, .slice none 0 0, .int .u8 0, .int .u8 0, .int .u16 8195, .int .u8 0, .string ⟨#[]⟩, .int .u8 22, .int .u8 2, .slice none 0 0, .slice none 0 0, .slice none 0 0, .int .u8 0, .int .u8 0, .int .u16 8196, .int .u8 0, .string ⟨#[]⟩, .int .u8 15, .int .u8 3, .slice none 0 0, .slice none 0 0, .slice none 0 0, .int .u8 1, .int .u8 0]
def exW (w : World) : World := (exB w).alloc (.cells (exC w.heap.size) 72)
theorem exB_size (w : World) : (exB w).heap.size = w.heap.size + 1 + 1 + 1 + 1 + 1 := by simp [exB]
theorem exW_size (w : World) : (exW w).heap.size = w.heap.size + 6 := by simp [exW, exB_size]
theorem exB_below (w : World) : Below w.heap.size w (exB w) := by unfold exB; exact (by repeat (first | exact Below.refl _ _ | apply Below.drew | apply Below.al))
theorem exW_below (w : World) : Below w.heap.size w (exW w) := by unfold exW; exact Below.al (exB_below w) _
set_option linter.unusedSimpArgs false in
set_option maxHeartbeats 4000000 in
set_option maxRecDepth 100000 in
theorem example_any (w : World) : Calls Tryz.prog 16 #[] w fun e w' => e = .returned (.slice (some ⟨w.heap.size + 1 + 1 + 1 + 1 + 1, 0, none⟩) 5 5) ∧ w' = exW w := by
  go_enter Tryz.func16, Tryz.ntmps16
  have cid := Go.Joins.run_convert_bytes_const_at (P := Tryz.prog) ((((w.alloc (.cells #[.int .u8 5] 5)).alloc (.cells #[.int .u8 1] 5)).alloc (.cells #[.int .u8 9] 5)).alloc (.cells #[.int .u8 1] 5)) 42 5 #[.int .u8 97, .int .u8 32, .int .u8 116, .int .u8 101, .int .u8 120, .int .u8 116, .int .u8 32, .int .u8 111, .int .u8 102, .int .u8 32, .int .u8 116, .int .u8 119, .int .u8 101, .int .u8 110, .int .u8 116, .int .u8 121, .int .u8 32, .int .u8 111, .int .u8 110, .int .u8 101] 20 20 (w.heap.size + 1 + 1 + 1 + 1) (by simp) Tryz.underlying42 Tryz.underlying5
  go_wp2_with fail
  go_ret
  exact ⟨rfl, rfl⟩
theorem row_fr (w : World) (C : Array Value) (T : TypeId) (fr : Nat × Nat) (zs : List Int) (len : Nat) (hl : zs.length = len) (ho : Oct zs) (hC : C = (zs.map (Value.int .u8)).toArray) : Row (w.alloc (.cells C T fr)) (some ⟨w.heap.size, 0, none⟩) len zs where
  size := hl
  oct := ho
  at_ := fun _ => ⟨_, 0, rfl, fun i hi => by
    rw [Nat.zero_add, cell_of_row _ _ _ _ _ _ (at11 _ _ _ rfl), hC]
    simp [List.getD_eq_getElem?_getD, hl, hi]⟩
theorem oct1 (k : Int) (h0 : 0 ≤ k) (h1 : k ≤ 255) : Oct [k] := fun n hn => by simp at hn; omega
theorem octT : Oct [97, 32, 116, 101, 120, 116, 32, 111, 102, 32, 116, 119, 101, 110, 116, 121, 32, 111, 110, 101] := fun n hn => by simp at hn; omega
theorem ex_rows (w : World) : SlOk (exB w) (some ⟨w.heap.size, 0, none⟩) 1 1 [5] ∧ SlOk (exB w) (some ⟨w.heap.size + 1, 0, none⟩) 1 1 [1] ∧ SlOk (exB w) (some ⟨w.heap.size + 1 + 1, 0, none⟩) 1 1 [9] ∧ SlOk (exB w) (some ⟨w.heap.size + 1 + 1 + 1, 0, none⟩) 1 1 [1] ∧ SlOk (exB w) (some ⟨w.heap.size + 1 + 1 + 1 + 1, 0, none⟩) 20 20 [97, 32, 116, 101, 120, 116, 32, 111, 102, 32, 116, 119, 101, 110, 116, 121, 32, 111, 110, 101] := by
  obtain ⟨w1, h1⟩ : ∃ w1, w.alloc (.cells #[.int .u8 5] 5) = w1 := ⟨_, rfl⟩
  obtain ⟨w2, h2⟩ : ∃ w2, w1.alloc (.cells #[.int .u8 1] 5) = w2 := ⟨_, rfl⟩
  obtain ⟨w3, h3⟩ : ∃ w3, w2.alloc (.cells #[.int .u8 9] 5) = w3 := ⟨_, rfl⟩
  obtain ⟨w4, h4⟩ : ∃ w4, w3.alloc (.cells #[.int .u8 1] 5) = w4 := ⟨_, rfl⟩
  obtain ⟨w5, h5⟩ : ∃ w5, w4.alloc (.cells #[.int .u8 97, .int .u8 32, .int .u8 116, .int .u8 101, .int .u8 120, .int .u8 116, .int .u8 32, .int .u8 111, .int .u8 102, .int .u8 32, .int .u8 116, .int .u8 119, .int .u8 101, .int .u8 110, .int .u8 116, .int .u8 121, .int .u8 32, .int .u8 111, .int .u8 110, .int .u8 101] 5 (20, 21)) = w5 := ⟨_, rfl⟩
  have he : exB w = w5 := by unfold exB; rw [h1, h2, h3, h4, h5]
  have s1 : w1.heap.size = w.heap.size + 1 := by rw [← h1]; simp
  have s2 : w2.heap.size = w1.heap.size + 1 := by rw [← h2]; simp
  have s3 : w3.heap.size = w2.heap.size + 1 := by rw [← h3]; simp
  have s4 : w4.heap.size = w3.heap.size + 1 := by rw [← h4]; simp
  have b5 : Below w4.heap.size w4 w5 := by rw [← h5]; exact Below.al (Below.refl _ _) _
  have b4 : Below w3.heap.size w3 w5 := Below.andThen (by rw [← h4]; exact Below.al (Below.refl _ _) _) b5
  have b3 : Below w2.heap.size w2 w5 := Below.andThen (by rw [← h3]; exact Below.al (Below.refl _ _) _) b4
  have b2 : Below w1.heap.size w1 w5 := Below.andThen (by rw [← h2]; exact Below.al (Below.refl _ _) _) b3
  rw [he]
  refine ⟨SlOk.next ⟨?_, by decide, by decide⟩ b2, SlOk.next ⟨?_, by decide, by decide⟩ b3, SlOk.next ⟨?_, by decide, by decide⟩ b4, SlOk.next ⟨?_, by decide, by decide⟩ b5, ⟨?_, by decide, by decide⟩⟩
  · rw [← h1]; exact row_lit w _ _ _ 1 rfl (oct1 5 (by decide) (by decide)) rfl
  · rw [← h2, ← s1]; exact row_lit w1 _ _ _ 1 rfl (oct1 1 (by decide) (by decide)) rfl
  · rw [← h3, ← s1, ← s2]; exact row_lit w2 _ _ _ 1 rfl (oct1 9 (by decide) (by decide)) rfl
  · rw [← h4, ← s1, ← s2, ← s3]; exact row_lit w3 _ _ _ 1 rfl (oct1 1 (by decide) (by decide)) rfl
  · rw [← h5, ← s1, ← s2, ← s3, ← s4]; exact row_fr w4 _ _ _ _ 20 rfl octT rfl
theorem ex_at (w : World) (k : Nat) (e : Em) (he : (exE w.heap.size)[k]? = some e) : EmAt (exW w) (w.heap.size + 1 + 1 + 1 + 1 + 1) k e := by
  have HR : (exW w).heap[w.heap.size + 1 + 1 + 1 + 1 + 1]? = some (.cells (exC w.heap.size) 72 (0, 0)) := at11 _ _ _ (exB_size w).symm
  rcases k with _ | _ | _ | _ | _ | k
  case succ.succ.succ.succ.succ => simp [exE] at he
  all_goals
    simp only [exE, List.getElem?_cons_zero, List.getElem?_cons_succ, Option.some.injEq] at he
    subst he
    refine ⟨?_, ?_, ?_, ?_, ?_, ?_, ?_, ?_, ?_, ?_⟩ <;> (rw [cell_of_row _ _ _ _ _ _ HR]; rfl)
theorem ex_ok (w : World) : ∀ e ∈ exE w.heap.size, EmOk (exW w) e := by
  obtain ⟨r0, r1, r2, r3, r4⟩ := ex_rows w
  have b : Below (exB w).heap.size (exB w) (exW w) := Below.al (Below.refl _ _) _
  have r0 := r0.next b
  have r1 := r1.next b
  have r2 := r2.next b
  have r3 := r3.next b
  have r4 := r4.next b
  have rn := slOk_nil (exW w)
  clear b
  intro e he
  simp only [exE, List.mem_cons, List.not_mem_nil, or_false] at he
  rcases he with rfl | rfl | rfl | rfl | rfl
  · exact ⟨r0, r1, r2, by dsimp only; decide, by dsimp only; decide, by dsimp only; decide, by dsimp only; decide, by dsimp only; decide, by dsimp only; decide, by dsimp only; decide, by dsimp only; decide +kernel, by dsimp only; decide +kernel, by dsimp only; decide +kernel⟩
  · exact ⟨r3, rn, rn, by dsimp only; decide, by dsimp only; decide, by dsimp only; decide, by dsimp only; decide, by dsimp only; decide, by dsimp only; decide, by dsimp only; decide, by dsimp only; decide +kernel, by dsimp only; decide +kernel, by dsimp only; decide +kernel⟩
  · exact ⟨r4, rn, rn, by dsimp only; decide, by dsimp only; decide, by dsimp only; decide, by dsimp only; decide, by dsimp only; decide, by dsimp only; decide, by dsimp only; decide, by dsimp only; decide +kernel, by dsimp only; decide +kernel, by dsimp only; decide +kernel⟩
  · exact ⟨rn, rn, rn, by dsimp only; decide, by dsimp only; decide, by dsimp only; decide, by dsimp only; decide, by dsimp only; decide, by dsimp only; decide, by dsimp only; decide, by dsimp only; decide +kernel, by dsimp only; decide +kernel, by dsimp only; decide +kernel⟩
  · exact ⟨rn, rn, rn, by dsimp only; decide, by dsimp only; decide, by dsimp only; decide, by dsimp only; decide, by dsimp only; decide, by dsimp only; decide, by dsimp only; decide, by dsimp only; decide +kernel, by dsimp only; decide +kernel, by dsimp only; decide +kernel⟩
theorem ex_dis (n k : Nat) (e : Em) (he : (exE n)[k]? = some e) : ∀ e' ∈ (exE n).take k, ¬ (e.i = e'.i ∧ e.s = e'.s) := by
  rcases k with _ | _ | _ | _ | _ | k
  case succ.succ.succ.succ.succ => simp [exE] at he
  all_goals
    simp only [exE, List.getElem?_cons_zero, List.getElem?_cons_succ, Option.some.injEq] at he
    subst he
    simp [exE]
set_option linter.unusedSimpArgs false in
set_option maxHeartbeats 4000000 in
set_option maxRecDepth 100000 in
theorem exNew (w : World) (hT : Ty.Tab64 (exW w)) : Calls Tryz.prog 15 #[.slice (some ⟨w.heap.size + 1 + 1 + 1 + 1 + 1, 0, none⟩) 5 5] (exW w) (NewPost (exE w.heap.size) (exW w)) :=
  new_at (w.heap.size + 1 + 1 + 1 + 1 + 1) 5 (exE w.heap.size) (exW w) (by simp [exE]) (ex_ok w) (ex_at w) (fun k e he => ex_dis _ k e he) hT
end Go.Proofs.YtimnpdegoehblaaGreatDoor
