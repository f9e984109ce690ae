/-
  A write that is refused for its value.
-/
import Derived.Test.YtgfmcjneglnnpaaDoorDd
namespace Go.Proofs.YtgfmcjneglnnpaaDoor
open Go.RowKit

set_option linter.unusedSimpArgs false in
set_option maxHeartbeats 4000000 in
set_option maxRecDepth 100000 in
theorem may_bad (p m : Nat) (cg : Int) (lst : Mp) (i s : Int) (nm : ByteArray) (t rt : Int) (d : Option Addr) (ld cd : Nat) (l : Option Addr) (ll cl : Nat) (h : Option Addr) (lh ch : Nat) (tg gr : Int) (v : Option Addr) (lv cv : Nat) (b : Option Addr) (lb cb : Nat) (zb zl zh : List Int) (w : World) (hp : w.heap[p]? = some (.cells #[.map (some m), .int .i64 cg] 80 (0, 0))) (hm : IsM w m lst) (hl : lookP lst i s = some (.agg (itC i s nm t rt d ld cd l ll cl h lh ch tg gr v lv cv))) (rb : SlOk w b lb cb zb) (rl : SlOk w l ll cl zl) (rh : SlOk w h lh ch zh) (hT : Ty.Tab64 w)
    (hr : (bits .and .u8 rt 2 != 0) = true) (code : Int) (hc : Ty.chkN t zb zl zh = code) (hz : code ≠ 0) :
    Calls Tryd.prog 7 #[.pointer (some ⟨p, 0, none⟩), plV i s, .slice b lb cb] w fun e w' => e = .returned (.tuple #[.int .u8 0, .int .u32 code]) ∧ Below w.heap.size w w' := by
  have HF : Hid (∀ W, Below w.heap.size w W → Calls Tryd.prog 24 #[.pointer (some ⟨p, 0, none⟩), plV i s] W fun e w' => e = .returned (.tuple #[.agg (itC i s nm t rt d ld cd l ll cl h lh ch tg gr v lv cv), .int .u32 0]) ∧ Below W.heap.size W w') := fun W hb => find_at p m cg lst i s nm t rt d ld cd l ll cl h lh ch tg gr v lv cv W (blk11 hb hp) (hm.next hb) hl
  have HH : Hid (∀ W, Calls Tryd.prog 26 #[.agg (itC i s nm t rt d ld cd l ll cl h lh ch tg gr v lv cv), .int .u8 2] W fun e w' => e = .returned (.bool true) ∧ Below W.heap.size W w') := fun W => by
    have := has_any i s nm t rt d ld cd l ll cl h lh ch tg gr v lv cv 2 W
    rw [hr] at this
    exact this
  have HC : Hid (∀ W, Below w.heap.size w W → Calls Tryd.prog 28 #[.agg (itC i s nm t rt d ld cd l ll cl h lh ch tg gr v lv cv), .slice b lb cb] W fun e w' => e = .returned (.int .u32 code) ∧ Below W.heap.size W w') := fun W hb => by
    have := icheck_any i s nm t rt d ld cd l ll cl h lh ch tg gr v lv cv b lb cb zb zl zh W (rb.next hb) (rl.next hb) (rh.next hb) (tab_next hT hb)
    rw [hc] at this
    exact this
  clear hp hm hl rb rl rh hT hr hc
  go_enter Tryd.func7, Tryd.ntmps7
  go_wp2_with fail
  refine (HF.out _ (by repeat (first | exact Below.refl _ _ | apply Below.drew | apply Below.al))).mono ?_
  rintro e w1 ⟨rfl, hb⟩
  have B1 : Hid (Below w.heap.size w w1) := Below.andThen (by repeat (first | exact Below.refl _ _ | apply Below.drew | apply Below.al)) hb
  clear hb
  go_wp2_with fail
  refine (HH.out _).mono ?_
  rintro e w2 ⟨rfl, hb⟩
  have B2 : Hid (Below w.heap.size w w2) := Below.andThen (Below.al B1.out _) hb
  have X2 : Hid (w2.heap[w1.heap.size]? = some (.cells (itC i s nm t rt d ld cd l ll cl h lh ch tg gr v lv cv) 65 (0, 0))) := blk11 hb (at11 _ _ _ rfl)
  have l2 := lt_of_heap X2.out
  clear hb
  go_wp2_with (refine wpList_load_by rfl 65 _ rfl ⟨w1.heap.size, 0, none⟩ _ rfl (loadI _ _ i s nm t rt d ld cd l ll cl h lh ch tg gr v lv cv _ X2.out) ?_)
  refine (HC.out _ B2.out).mono ?_
  rintro e w3 ⟨rfl, hb⟩
  have B3 : Hid (Below w.heap.size w w3) := Below.andThen B2.out hb
  clear hb
  go_wp2_with fail
  go_ret2
  exact ⟨rfl, B3.out⟩
set_option linter.unusedSimpArgs false in
set_option maxHeartbeats 4000000 in
set_option maxRecDepth 100000 in
theorem write_bad (p m : Nat) (cg : Int) (lst : Mp) (i s : Int) (nm : ByteArray) (t rt : Int) (d : Option Addr) (ld cd : Nat) (l : Option Addr) (ll cl : Nat) (h : Option Addr) (lh ch : Nat) (tg gr : Int) (v : Option Addr) (lv cv : Nat) (b : Option Addr) (lb cb : Nat) (zb zl zh : List Int) (w : World) (hp : w.heap[p]? = some (.cells #[.map (some m), .int .i64 cg] 80 (0, 0))) (hm : IsM w m lst) (hl : lookP lst i s = some (.agg (itC i s nm t rt d ld cd l ll cl h lh ch tg gr v lv cv))) (rb : SlOk w b lb cb zb) (rl : SlOk w l ll cl zl) (rh : SlOk w h lh ch zh) (hT : Ty.Tab64 w)
    (hr : (bits .and .u8 rt 2 != 0) = true) (code : Int) (hc : Ty.chkN t zb zl zh = code) (hz : code ≠ 0) :
    Calls Tryd.prog 12 #[.pointer (some ⟨p, 0, none⟩), plV i s, .slice b lb cb] w fun e w' => e = .returned (.int .u32 code) ∧ Below w.heap.size w w' := by
  have HM : Hid (∀ W, Below w.heap.size w W → Calls Tryd.prog 7 #[.pointer (some ⟨p, 0, none⟩), plV i s, .slice b lb cb] W fun e w' => e = .returned (.tuple #[.int .u8 0, .int .u32 code]) ∧ Below W.heap.size W w') := fun W hb => may_bad p m cg lst i s nm t rt d ld cd l ll cl h lh ch tg gr v lv cv b lb cb zb zl zh W (blk11 hb hp) (hm.next hb) hl (rb.next hb) (rl.next hb) (rh.next hb) (tab_next hT hb) hr code hc hz
  clear hp hm hl rb rl rh hT hr hc
  go_enter Tryd.func12, Tryd.ntmps12
  go_wp2_with fail
  refine (HM.out _ (by repeat (first | exact Below.refl _ _ | apply Below.drew | apply Below.al))).mono ?_
  rintro e w1 ⟨rfl, hb⟩
  have B1 : Hid (Below w.heap.size w w1) := Below.andThen (by repeat (first | exact Below.refl _ _ | apply Below.drew | apply Below.al)) hb
  clear hb
  go_wp2_with fail
  go_ret
  exact ⟨rfl, B1.out⟩
end Go.Proofs.YtgfmcjneglnnpaaDoor
