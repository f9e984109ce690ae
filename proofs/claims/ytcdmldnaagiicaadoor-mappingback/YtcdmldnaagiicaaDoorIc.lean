/-
  What is refused, and what is empty.
-/
import Derived.Test.YtcdmldnaagiicaaDoorIb
import Derived.Test.YtcdmldnaagiicaaDoorTk9
namespace Go.Proofs.YtcdmldnaagiicaaDoor
open Go.RowKit

set_option linter.unusedSimpArgs false in
set_option maxHeartbeats 4000000 in
set_option maxRecDepth 100000 in
theorem mcheck_bad (out : Bool) (p m : Nat) (cg : Int) (lst : Mp) (i s b : Int) (nm : ByteArray) (t rt : Int) (d : Option Addr) (ld cd : Nat) (l : Option Addr) (ll cl : Nat) (h : Option Addr) (lh ch : Nat) (tg gr : Int) (v : Option Addr) (lv cv : Nat) (zd zl zh : List Int) (w : World) (hp : w.heap[p]? = some (.cells #[.map (some m), .int .i64 cg] 58 (0, 0))) (hm : IsM w m lst) (hl : lookP lst i s = some (.agg (itC i s nm t rt d ld cd l ll cl h lh ch tg gr v lv cv))) (rd : SlOk w d ld cd zd) (rl : SlOk w l ll cl zl) (rh : SlOk w h lh ch zh) (g1 : ld ≤ 16777216) (g2 : ll ≤ 16777216) (g3 : lh ≤ 16777216) (hi1 : 256 ≤ i) (hi2 : i < 65536)
    (hb : hasB t b = false) :
    Calls Tryd.prog 21 #[mpV i s b, .pointer (some ⟨p, 0, none⟩), .bool out] w fun e w' => e = .returned (.int .u32 100925505) ∧ Below w.heap.size w w' := by
  have HG : Hid (∀ W, Calls Tryd.prog 35 #[mpV i s b] W fun e w' => e = .returned (.bool false) ∧ Below W.heap.size W w') := fun W => isGap_no i s b W hi1 hi2
  have HF : Hid (∀ W, Below w.heap.size w W → Calls Tryd.prog 36 #[.pointer (some ⟨p, 0, none⟩), plV i s] W fun e w' => (∃ a1 c1 a2 c2 a3 c3, e = .returned (.tuple #[.agg (enC i s nm t rt a1 ld c1 a2 ll c2 a3 lh c3 tg gr), .int .u32 0])) ∧ Below W.heap.size W w') := fun W hb => findE_at p m cg lst i s nm t rt d ld cd l ll cl h lh ch tg gr v lv cv zd zl zh W (blk11 hb hp) (hm.next hb) hl (rd.next hb) (rl.next hb) (rh.next hb) g1 g2 g3
  have HT : Hid (∀ a1 c1 a2 c2 a3 c3 W, Calls Tryd.prog 37 #[mpV i s b, .agg (enC i s nm t rt a1 ld c1 a2 ll c2 a3 lh c3 tg gr)] W fun e w' => e = .returned (.bool false) ∧ Below W.heap.size W w') := fun a1 c1 a2 c2 a3 c3 W => by have := fits_any i s b i s nm t rt a1 ld c1 a2 ll c2 a3 lh c3 tg gr W; rw [hb, Bool.and_false] at this; exact this
  clear hp hm hl rd rl rh g1 g2 g3 hb
  go_enter Tryd.func21, Tryd.ntmps21
  go_wp2_with fail
  refine (HG.out _).mono ?_
  rintro e w1 ⟨rfl, hb1⟩
  have B1 : Hid (Below w.heap.size w w1) := Below.andThen (by repeat (first | exact Below.refl _ _ | apply Below.drew | apply Below.al)) hb1
  have X1 : Hid (w1.heap[w.heap.size]? = some (.cells #[.int .u16 i, .int .u8 s, .int .i64 b] 48 (0, 0))) := blk11 hb1 (at11 _ _ _ rfl)
  have c0 : w1.cell? ⟨w.heap.size, 0, none⟩ = some (.int .u16 i) := by rw [cell_of_row _ _ 0 _ _ _ X1.out]; rfl
  have c1 : w1.cell? ⟨w.heap.size, 1, none⟩ = some (.int .u8 s) := by rw [cell_of_row _ _ 1 _ _ _ X1.out]; rfl
  clear hb1
  go_wp2_with fail
  refine (HF.out _ B1.out).mono ?_
  rintro e w2 ⟨⟨a1, k1, a2, k2, a3, k3, rfl⟩, hb2⟩
  have B2 : Hid (Below w.heap.size w w2) := Below.andThen B1.out hb2
  have X2 : Hid (w2.heap[w.heap.size]? = some (.cells #[.int .u16 i, .int .u8 s, .int .i64 b] 48 (0, 0))) := blk11 hb2 X1.out
  have lw := lt_of_heap X2.out
  have d0 : w2.cell? ⟨w.heap.size, 0, none⟩ = some (.int .u16 i) := by rw [cell_of_row _ _ 0 _ _ _ X2.out]; rfl
  have d1 : w2.cell? ⟨w.heap.size, 1, none⟩ = some (.int .u8 s) := by rw [cell_of_row _ _ 1 _ _ _ X2.out]; rfl
  have d2 : w2.cell? ⟨w.heap.size, 2, none⟩ = some (.int .i64 b) := by rw [cell_of_row _ _ 2 _ _ _ X2.out]; rfl
  clear hb2 c0 c1
  cases out with
  | false =>
    go_wp2_with (refine wpList_load_by rfl 53 _ rfl ⟨w2.heap.size, 0, none⟩ _ rfl (load_part 53 10 sizeE aggE _ w2.heap.size 0 (enC i s nm t rt a1 ld k1 a2 ll k2 a3 lh k3 tg gr).toList _ (at11 _ _ _ rfl) (by simp)) ?_)
    refine (HT.out _ _ _ _ _ _ _).mono ?_
    rintro e w3 ⟨rfl, hb3⟩
    have B3 : Hid (Below w.heap.size w w3) := Below.andThen (Below.al B2.out _) hb3
    have X3 : Hid (w3.heap[w2.heap.size]? = some (.cells (enC i s nm t rt a1 ld k1 a2 ll k2 a3 lh k3 tg gr) 53 (0, 0))) := blk11 hb3 (at11 _ _ _ rfl)
    have c4 : w3.cell? ⟨w2.heap.size, 4, none⟩ = some (.int .u8 rt) := by rw [cell_of_row _ _ 4 _ _ _ X3.out]; rfl
    clear hb3
    go_wp2_with fail
    go_ret
    exact ⟨rfl, B3.out⟩
  | true =>
    go_wp2_with (refine wpList_load_by rfl 53 _ rfl ⟨w2.heap.size, 0, none⟩ _ rfl (load_part 53 10 sizeE aggE _ w2.heap.size 0 (enC i s nm t rt a1 ld k1 a2 ll k2 a3 lh k3 tg gr).toList _ (at11 _ _ _ rfl) (by simp)) ?_)
    refine (HT.out _ _ _ _ _ _ _).mono ?_
    rintro e w3 ⟨rfl, hb3⟩
    have B3 : Hid (Below w.heap.size w w3) := Below.andThen (Below.al B2.out _) hb3
    have X3 : Hid (w3.heap[w2.heap.size]? = some (.cells (enC i s nm t rt a1 ld k1 a2 ll k2 a3 lh k3 tg gr) 53 (0, 0))) := blk11 hb3 (at11 _ _ _ rfl)
    have c4 : w3.cell? ⟨w2.heap.size, 4, none⟩ = some (.int .u8 rt) := by rw [cell_of_row _ _ 4 _ _ _ X3.out]; rfl
    clear hb3
    go_wp2_with fail
    go_ret
    exact ⟨rfl, B3.out⟩
#print axioms mcheck_bad

set_option linter.unusedSimpArgs false in
set_option maxHeartbeats 4000000 in
set_option maxRecDepth 100000 in
theorem unpack_short (p m : Nat) (cg : Int) (lst : Mp) (gm N cap : Nat) (ms : List Mq) (a : Option Addr) (len capb : Nat) (w : World) (hp : w.heap[p]? = some (.cells #[.map (some m), .int .i64 cg] 58 (0, 0))) (hm : IsM w m lst) (hN : ms.length = N) (h64 : N ≤ 64) (hM : MsAt w gm ms) (hO : ∀ x ∈ ms, MpOk w lst false x) (hs : sumB ms N ≤ 64) (hlen : len < (sumB ms N + 7) / 8) :
    Calls Tryd.prog 26 #[.pointer (some ⟨p, 0, none⟩), .slice (some ⟨gm, 0, none⟩) N cap, .slice a len capb] w fun e w' => e = .returned (.tuple #[.slice none 0 0, .int .u32 101122064]) ∧ Below w.heap.size w w' := by
  obtain ⟨R, hR⟩ : ∃ R, Hid (R = (sumB ms N + 7) / 8) := ⟨_, rfl⟩
  have HC : Hid (∀ W, Below w.heap.size w W → Calls Tryd.prog 8 #[.pointer (some ⟨p, 0, none⟩), .slice (some ⟨gm, 0, none⟩) N cap, .bool false] W fun e w' => e = .returned (.int .u32 0) ∧ Below W.heap.size W w') := fun W hb => check_ok false p m cg lst gm N cap ms W (blk11 hb hp) (hm.next hb) hN h64 (hM.next hb) (fun x hx => (hO x hx).next hb) hs
  have HS : Hid (∀ W, Below w.heap.size w W → Calls Tryd.prog 10 #[.slice (some ⟨gm, 0, none⟩) N cap] W fun e w' => e = .returned (.int .i64 (R : Int)) ∧ Below W.heap.size W w') := fun W hb => by rw [hR.out]; exact size_ok gm N cap ms W hN h64 (hM.next hb) hs
  have hRl : len < R := by have := hR.out; omega
  clear hp hm hM hO
  go_enter Tryd.func26, Tryd.ntmps26
  go_wp2_with fail
  refine (HC.out _ (by repeat (first | exact Below.refl _ _ | apply Below.drew | apply Below.al))).mono ?_
  rintro e w1 ⟨rfl, hb1⟩
  have B1 : Hid (Below w.heap.size w w1) := Below.andThen (by repeat (first | exact Below.refl _ _ | apply Below.drew | apply Below.al)) hb1
  have HB1 : Hid (w1.heap[w.heap.size]? = some (.cells #[.slice a len capb] 34 (0, 0))) := blk11 hb1 (at11 _ _ _ rfl)
  clear hb1
  go_wp2_with fail
  refine wp_region_held_drew (S := fun z => Below w1.heap.size w1 z) (by kernel_rfl) (Below.drew (Below.refl _ _)) (fun hHeld => ?_)
  refine tk 0 (.slice a len capb) rfl (.inl ⟨by rfl, ?_⟩) ?_
  · intro w9 hSw
    try dsimp only at hSw
    have c9 : w9.cell? ⟨w.heap.size, 0, none⟩ = some (.slice a len capb) := by rw [cell_of_row _ _ 0 _ _ _ (blk11 hSw HB1.out)]; rfl
    go_simp
    all_goals try assumption
  try simp only [Act.put, gA, gS, gZ, sA, sZ, sS]
  refine tk 1 (.int .i64 (len : Int)) rfl (.inl ⟨by rfl, ?_⟩) ?_
  · intro w9 hSw
    try dsimp only at hSw
    go_simp
    all_goals try decide
    all_goals try assumption
    all_goals try omega
  try simp only [Act.put, gA, gS, gZ, sA, sZ, sS]
  refine tk 2 (.slice (some ⟨gm, 0, none⟩) N cap) rfl (.inl ⟨by rfl, ?_⟩) ?_
  · intro w9 hSw
    try dsimp only at hSw
    go_simp
    all_goals try decide
    all_goals try assumption
    all_goals try omega
  try simp only [Act.put, gA, gS, gZ, sA, sZ, sS]
  refine wpAnyH_ready (rs := [3]) (by kernel_rfl) (by simp) ?_
  refine AllReadyH.cons rfl (fun K' hK => ?_) AllReadyH.nil
  rw [if_pos (by rfl)]
  simp only [gA, gS, gZ]
  go_wp2_with fail
  refine (HS.out _ (Below.andThen B1.out (Below.drew (Below.refl _ _)))).mono ?_
  rintro e z3 ⟨rfl, hb3⟩
  have N3 : Hid (Below w1.heap.size w1 z3) := Below.andThen (Below.drew (Below.refl _ _)) hb3
  clear hb3
  try go_wp2_with fail
  refine hK.out _ _ (N3.out) (fun hHeld => ?_)
  clear hK K'
  try simp only [Act.put, gA, gS, gZ, sA, sZ, sS]
  refine tk 4 (.bool true) rfl (.inl ⟨by rfl, ?_⟩) ?_
  · intro w9 hSw
    try dsimp only at hSw
    have q1 : (len : Int) < (R : Int) := by omega
    go_simp
    all_goals try omega
  try simp only [Act.put, gA, gS, gZ, sA, sZ, sS]
  refine wpAnyH_done (by kernel_rfl) ?_ _
  have B3 : Hid (Below w.heap.size w z3) := Below.andThen B1.out hHeld
  clear hHeld N3
  go_wp2_with fail
  go_ret2
  exact ⟨rfl, B3.out⟩
#print axioms unpack_short

set_option linter.unusedSimpArgs false in
set_option maxHeartbeats 4000000 in
set_option maxRecDepth 100000 in
theorem check_nil (out : Bool) (pv : Value) (w : World) : Calls Tryd.prog 8 #[pv, .slice none 0 0, .bool out] w fun e w' => e = .returned (.int .u32 0) ∧ w' = w := by
  go_enter Tryd.func8, Tryd.ntmps8
  go_wp2_with fail
  go_loopw [7, 16] (fun cv iv wr => iv = .int .i64 0 ∧ cv = .int .i64 0 ∧ wr = w) (fun _ _ _ => 0)
  case atStart => exact ⟨rfl, rfl, rfl⟩
  case round =>
    obtain ⟨rfl, rfl, rfl⟩ := hrel
    go_wp2_with fail
    go_ret
    exact ⟨rfl, rfl⟩

set_option linter.unusedSimpArgs false in
set_option maxHeartbeats 4000000 in
set_option maxRecDepth 100000 in
theorem size_nil (w : World) : Calls Tryd.prog 10 #[.slice none 0 0] w fun e w' => e = .returned (.int .i64 0) ∧ w' = w := by
  have HF : Hid (∀ W, Calls Tryd.prog 25 #[.int .i64 0] W fun e w' => e = .returned (.int .i64 0) ∧ w' = W) := fun W => bytesFor_any 0 W (by decide)
  go_enter Tryd.func10, Tryd.ntmps10
  go_wp2_with fail
  go_loopw [3, 8] (fun cv iv wr => iv = .int .i64 0 ∧ cv = .int .i64 0 ∧ wr = w) (fun _ _ _ => 0)
  case atStart => exact ⟨rfl, rfl, rfl⟩
  case round =>
    obtain ⟨rfl, rfl, rfl⟩ := hrel
    go_wp2_with fail
    refine (HF.out _).mono ?_
    rintro e w2 ⟨rfl, rfl⟩
    go_wp2_with fail
    go_ret
    exact ⟨rfl, rfl⟩

set_option linter.unusedSimpArgs false in
set_option maxHeartbeats 4000000 in
set_option maxRecDepth 100000 in
theorem pack_nil (pv : Value) (w : World) : Calls Tryd.prog 9 #[pv, .slice none 0 0] w fun e w' => (∃ g, e = .returned (.tuple #[.slice (some ⟨g, 0, none⟩) 0 0, .int .u32 0])) ∧ Below w.heap.size w w' := by
  have MK := mkZ 0 (by decide)
  have MK0 : ∀ W, (Instr.makeSlice 34 (.int .i64 0) (.int .i64 0)).run Tryd.prog W = .ok (.slice (some ⟨W.heap.size, 0, none⟩) 0 0) (W.alloc (.cells (zC 0) 5)) := MK
  clear MK
  go_enter Tryd.func9, Tryd.ntmps9
  go_wp2_with fail
  refine (check_nil true pv _).mono ?_
  rintro e w1 ⟨rfl, rfl⟩
  go_wp2_with fail
  refine (size_nil _).mono ?_
  rintro e w2 ⟨rfl, rfl⟩
  go_wp2_with fail
  obtain ⟨W0, HW0⟩ : ∃ W0, Hid (W0 = w2.alloc (.cells (zC 0) 5)) := ⟨_, rfl⟩
  have BW : Hid (Below w2.heap.size w2 W0) := by rw [HW0.out]; exact Below.al (Below.refl _ _) _
  go_loopw [8, 24] (fun ev iv wr => iv = .int .i64 0 ∧ ev = .int .i64 0 ∧ wr = W0) (fun _ _ _ => 0)
  case atStart => exact ⟨rfl, rfl, HW0.out.symm⟩
  case round =>
    obtain ⟨rfl, rfl, rfl⟩ := hrel
    go_wp2_with fail
    go_ret2
    exact ⟨⟨_, rfl⟩, BW.out⟩

set_option linter.unusedSimpArgs false in
set_option maxHeartbeats 4000000 in
set_option maxRecDepth 100000 in
theorem unpack_nil (pv : Value) (w : World) : Calls Tryd.prog 26 #[pv, .slice none 0 0, .slice none 0 0] w fun e w' => e = .returned (.tuple #[.slice none 0 0, .int .u32 0]) ∧ Below w.heap.size w w' := by
  go_enter Tryd.func26, Tryd.ntmps26
  go_wp2_with fail
  refine (check_nil false pv _).mono ?_
  rintro e w1 ⟨rfl, h1⟩
  have B1 : Hid (Below w.heap.size w w1) := by rw [h1]; exact (by repeat (first | exact Below.refl _ _ | apply Below.drew | apply Below.al))
  have HB1 : Hid (w1.heap[w.heap.size]? = some (.cells #[.slice none 0 0] 34 (0, 0))) := by rw [h1]; exact at11 _ _ _ rfl
  clear h1
  go_wp2_with fail
  refine wp_region_held_drew (S := fun z => Below w1.heap.size w1 z) (by kernel_rfl) (Below.drew (Below.refl _ _)) (fun hHeld => ?_)
  refine tk 0 (.slice none 0 0) rfl (.inl ⟨by rfl, ?_⟩) ?_
  · intro w9 hSw
    try dsimp only at hSw
    have c9 : w9.cell? ⟨w.heap.size, 0, none⟩ = some (.slice none 0 0) := by rw [cell_of_row _ _ 0 _ _ _ (blk11 hSw HB1.out)]; rfl
    go_simp
    all_goals try assumption
  try simp only [Act.put, gA, gS, gZ, sA, sZ, sS]
  refine tk 1 (.int .i64 0) rfl (.inl ⟨by rfl, ?_⟩) ?_
  · intro w9 hSw
    try dsimp only at hSw
    go_simp
    all_goals try decide
    all_goals try assumption
    all_goals try omega
  try simp only [Act.put, gA, gS, gZ, sA, sZ, sS]
  refine tk 2 (.slice none 0 0) rfl (.inl ⟨by rfl, ?_⟩) ?_
  · intro w9 hSw
    try dsimp only at hSw
    go_simp
    all_goals try decide
    all_goals try assumption
    all_goals try omega
  try simp only [Act.put, gA, gS, gZ, sA, sZ, sS]
  refine wpAnyH_ready (rs := [3]) (by kernel_rfl) (by simp) ?_
  refine AllReadyH.cons rfl (fun K' hK => ?_) AllReadyH.nil
  rw [if_pos (by rfl)]
  simp only [gA, gS, gZ]
  go_wp2_with fail
  refine (size_nil _).mono ?_
  rintro e z3 ⟨rfl, rfl⟩
  try go_wp2_with fail
  refine hK.out _ _ (hHeld) (fun hHeld => ?_)
  clear hK K'
  try simp only [Act.put, gA, gS, gZ, sA, sZ, sS]
  refine tk 4 (.bool false) rfl (.inl ⟨by rfl, ?_⟩) ?_
  · intro w9 hSw
    try dsimp only at hSw
    go_simp
    all_goals try decide
    all_goals try assumption
    all_goals try omega
  try simp only [Act.put, gA, gS, gZ, sA, sZ, sS]
  refine wpAnyH_done (by kernel_rfl) ?_ _
  have B3 : Hid (Below w.heap.size w w1.drew) := Below.drew B1.out
  clear hHeld
  go_wp2_with fail
  obtain ⟨W0, HW0⟩ : ∃ W0, Hid (W0 = w1.drew.alloc (.cells #[.int .i64 0] 3)) := ⟨_, rfl⟩
  have BW : Hid (Below w.heap.size w W0) := by rw [HW0.out]; exact Below.al B3.out _
  go_loopw [11, 31] (fun u iv wr => iv = .int .i64 0 ∧ u = .slice none 0 0 ∧ wr = W0) (fun _ _ _ => 0)
  case atStart => exact ⟨rfl, rfl, HW0.out.symm⟩
  case round =>
    obtain ⟨rfl, rfl, rfl⟩ := hrel
    go_wp2_with fail
    go_ret2
    exact ⟨rfl, BW.out⟩

set_option linter.unusedSimpArgs false in
set_option maxHeartbeats 4000000 in
set_option maxRecDepth 100000 in
theorem write_fail (pv mv bv : Value) (code : Int) (hc : code ≠ 0) (w : World) (HU : Calls Tryd.prog 26 #[pv, mv, bv] w fun e w' => e = .returned (.tuple #[.slice none 0 0, .int .u32 code]) ∧ Below w.heap.size w w') :
    Calls Tryd.prog 11 #[pv, mv, bv] w fun e w' => e = .returned (.int .u32 code) ∧ Below w.heap.size w w' := by
  have HUU : Hid (Calls Tryd.prog 26 #[pv, mv, bv] w fun e w' => e = .returned (.tuple #[.slice none 0 0, .int .u32 code]) ∧ Below w.heap.size w w') := HU
  clear HU
  go_enter Tryd.func11, Tryd.ntmps11
  go_wp2_with fail
  refine HUU.out.mono ?_
  rintro e w1 ⟨rfl, hb⟩
  have B1 : Hid (Below w.heap.size w w1) := hb
  clear hb
  go_wp2_with fail
  go_ret
  exact ⟨rfl, B1.out⟩

set_option linter.unusedSimpArgs false in
set_option maxHeartbeats 4000000 in
set_option maxRecDepth 100000 in
theorem write_none (pv : Value) (w : World) : Calls Tryd.prog 11 #[pv, .slice none 0 0, .slice none 0 0] w fun e w' => e = .returned (.int .u32 0) ∧ Below w.heap.size w w' := by
  go_enter Tryd.func11, Tryd.ntmps11
  go_wp2_with fail
  refine (unpack_nil pv w).mono ?_
  rintro e w1 ⟨rfl, hb⟩
  have B1 : Hid (Below w.heap.size w w1) := hb
  clear hb
  go_wp2_with fail
  go_loopw [23] (fun iv wr => iv = .int .i64 0 ∧ wr = w1) (fun _ _ => 0)
  case atStart => exact ⟨rfl, rfl⟩
  case round =>
    obtain ⟨rfl, rfl⟩ := hrel
    go_wp2_with fail
    go_ret
    exact ⟨rfl, B1.out⟩
#print axioms write_none
end Go.Proofs.YtcdmldnaagiicaaDoor
