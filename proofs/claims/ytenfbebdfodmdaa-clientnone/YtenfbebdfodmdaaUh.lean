/-
  What comes behind an answer that ends a transfer.
-/
import Derived.Test.YtenfbebdfodmdaaUf
namespace Go.Proofs.Ytenfbebdfodmdaa
open Go.RowKit

set_option linter.unusedSimpArgs false in
set_option maxHeartbeats 4000000 in
set_option maxRecDepth 100000 in
theorem behind_1 (p T : Nat) (A wt : Int) (rp : Option Addr) (i s : Int) (last : Int) (tg ck : Bool) (a : Option Addr) (len cap : Nat) (sz : Bool) (size next dn asked : Int) (w : World) (hp : w.heap[p]? = some (.cells (clC A wt (some ⟨T, 0, none⟩) rp) 60 (0, 0))) (hT : w.heap[T]? = some (.cells (trC i s true true last 1 tg ck a len cap sz size next dn asked) 65 (0, 0))) (_ : p ≠ T) :
    Calls Try.prog 44 #[.pointer (some ⟨p, 0, none⟩)] w (EndPost [p, T] w p A wt i s true none 0 0 0) := by
  have HP : Hid (w.heap[p]? = some (.cells (clC A wt (some ⟨T, 0, none⟩) rp) 60 (0, 0))) := hp
  have HT : Hid (w.heap[T]? = some (.cells (trC i s true true last 1 tg ck a len cap sz size next dn asked) 65 (0, 0))) := hT
  have lp : p < w.heap.size := lt_of_heap hp
  have lT : T < w.heap.size := lt_of_heap hT
  have c2 : w.cell? ⟨p, 2, none⟩ = some (.pointer (some ⟨T, 0, none⟩)) := by rw [cell_of_row w _ 2 _ _ _ hp]; rfl
  have t3 : w.cell? ⟨T, 3, none⟩ = some (.bool true) := by rw [cell_of_row w _ 3 _ _ _ hT]; rfl
  have t8 : w.cell? ⟨T, 8, none⟩ = some (.slice a len cap) := by rw [cell_of_row w _ 8 _ _ _ hT]; rfl
  have z8 : w.frozen? ⟨T, 8, none⟩ = false := froz11 w T 8 _ _ hT
  clear hp hT
  go_enter Try.func44, Try.ntmps44
  go_wp2_with fail
  with_reducible refine (end_w p T A wt rp i s true last 1 tg ck a len cap sz size next dn asked 0 w HP.out HT.out).mono ?_
  rintro e w1 ⟨g, rfl, hg1, hg2, hg3, hg4⟩
  have H4 : Hid _ := hg4
  have H3 : Hid _ := hg3
  have H2 : Hid _ := hg2
  clear hg2 hg3 hg4
  go_wp2_with fail
  go_ret
  exact ⟨g, rfl, hg1, H2.out.more (by simp), H3.out, H4.out⟩
set_option linter.unusedSimpArgs false in
set_option maxHeartbeats 4000000 in
set_option maxRecDepth 100000 in
theorem goOn_1 (p T : Nat) (A wt : Int) (rp : Option Addr) (i s : Int) (last : Int) (tg ck : Bool) (a : Option Addr) (len cap : Nat) (sz : Bool) (size next dn asked : Int) (a2 : Option Addr) (cap2 : Nat) (w : World) (hp : w.heap[p]? = some (.cells (clC A wt (some ⟨T, 0, none⟩) rp) 60 (0, 0))) (hT : w.heap[T]? = some (.cells (trC i s true true last 1 tg ck a len cap sz size next dn asked) 65 (0, 0))) (hne : p ≠ T) :
    Calls Try.prog 34 #[.pointer (some ⟨p, 0, none⟩), cmV 1 i s false 0 false a2 0 cap2 false false false 0 0 0 0 0] w (EndPost [p, T] w p A wt i s true none 0 0 0) := by
  have HP : Hid (w.heap[p]? = some (.cells (clC A wt (some ⟨T, 0, none⟩) rp) 60 (0, 0))) := hp
  have HT : Hid (w.heap[T]? = some (.cells (trC i s true true last 1 tg ck a len cap sz size next dn asked) 65 (0, 0))) := hT
  clear hp hT
  go_enter Try.func34, Try.ntmps34
  go_wp2_with (refine wpList_load_by rfl 54 _ rfl ⟨w.heap.size, 0, none⟩ _ rfl (loadCM _ _ 1 i s false 0 false a2 0 cap2 false false false 0 0 0 0 0 _ (at11 _ _ _ rfl)) ?_)
  with_reducible refine (behind_1 p T A wt rp i s last tg ck a len cap sz size next dn asked _ (ext11 HP.out) (ext11 HT.out) hne).mono ?_
  rintro e w1 ⟨g, rfl, hg1, hg2, hg3, hg4⟩
  have H4 : Hid _ := hg4
  have H3 : Hid _ := hg3
  have H2 : Hid _ := hg2
  have hg5 : w.heap.size ≤ g := by simp at hg1; omega
  clear hg1 hg2 hg3 hg4
  go_wp2_with fail
  go_ret
  exact ⟨g, rfl, hg5, (Kp.of (Below.al (Below.refl _ _) _)).trans H2.out, H3.out, H4.out⟩

set_option linter.unusedSimpArgs false in
set_option maxHeartbeats 4000000 in
set_option maxRecDepth 100000 in
theorem behind_3 (p T : Nat) (A wt : Int) (rp : Option Addr) (i s : Int) (q : Bool) (last : Int) (tg ck : Bool) (a : Option Addr) (len cap : Nat) (sz : Bool) (size next dn asked : Int) (a2 : Option Addr) (len2 cap2 : Nat) (w : World) (hp : w.heap[p]? = some (.cells (clC A wt (some ⟨T, 0, none⟩) rp) 60 (0, 0))) (hT : w.heap[T]? = some (.cells (trC i s false q last 3 tg ck a len cap sz size next dn asked) 65 (0, 0))) (hne : p ≠ T) :
    Calls Try.prog 46 #[.pointer (some ⟨p, 0, none⟩), cmV 3 i s true 0 true a2 len2 cap2 false false false 0 0 0 0 0] w (EndPost [p, T] w p A wt i s false a2 len2 cap2 0) := by
  have HP : Hid (w.heap[p]? = some (.cells (clC A wt (some ⟨T, 0, none⟩) rp) 60 (0, 0))) := hp
  have HT : Hid (w.heap[T]? = some (.cells (trC i s false q last 3 tg ck a len cap sz size next dn asked) 65 (0, 0))) := hT
  have lp : p < w.heap.size := lt_of_heap hp
  have lT : T < w.heap.size := lt_of_heap hT
  have c2 : w.cell? ⟨p, 2, none⟩ = some (.pointer (some ⟨T, 0, none⟩)) := by rw [cell_of_row w _ 2 _ _ _ hp]; rfl
  have t3 : w.cell? ⟨T, 3, none⟩ = some (.bool q) := by rw [cell_of_row w _ 3 _ _ _ hT]; rfl
  have t8 : w.cell? ⟨T, 8, none⟩ = some (.slice a len cap) := by rw [cell_of_row w _ 8 _ _ _ hT]; rfl
  have z8 : w.frozen? ⟨T, 8, none⟩ = false := froz11 w T 8 _ _ hT
  clear hp hT
  go_enter Try.func46, Try.ntmps46
  go_wp2_with fail
  obtain ⟨W, HW⟩ : ∃ W, Hid ((w.setCell ⟨T, 8, none⟩ (.slice a2 len2 cap2)).alloc (.cells (cmC 3 i s true 0 true a2 len2 cap2 false false false 0 0 0 0 0) 54) = W) := ⟨_, rfl⟩
  have HPW : Hid (W.heap[p]? = some (.cells (clC A wt (some ⟨T, 0, none⟩) rp) 60 (0, 0))) := by show _ = _; rw [← HW.out]; exact ext11 ((heap_setCell_other _ _ _ _ hne).trans HP.out)
  have HTW : Hid (W.heap[T]? = some (.cells (trC i s false q last 3 tg ck a2 len2 cap2 sz size next dn asked) 65 (0, 0))) := by show _ = _; rw [← HW.out]; exact ext11 (heap_setCell_same _ _ _ _ _ _ HT.out)
  have KPW : Hid (Kp [p, T] w W) := by show Kp _ _ _; rw [← HW.out]; exact Kp.al (Kp.set (Kp.refl _ _) _ _ (.inl (by simp))) _
  have HSW : w.heap.size ≤ W.heap.size := KPW.out.size
  rw [HW.out]
  with_reducible refine (end_r p T A wt rp i s q last 3 tg ck a2 len2 cap2 sz size next dn asked 0 W HPW.out HTW.out rfl).mono ?_
  rintro e w1 ⟨g, rfl, hg1, hg2, hg3, hg4⟩
  have H4 : Hid _ := hg4
  have H3 : Hid _ := hg3
  have H2 : Hid _ := hg2
  clear hg2 hg3 hg4
  go_wp2_with fail
  go_ret
  exact ⟨g, rfl, Nat.le_trans HSW hg1, KPW.out.trans (H2.out.more (by simp)), H3.out, H4.out⟩
set_option linter.unusedSimpArgs false in
set_option maxHeartbeats 4000000 in
set_option maxRecDepth 100000 in
theorem goOn_3 (p T : Nat) (A wt : Int) (rp : Option Addr) (i s : Int) (q : Bool) (last : Int) (tg ck : Bool) (a : Option Addr) (len cap : Nat) (sz : Bool) (size next dn asked : Int) (a2 : Option Addr) (len2 cap2 : Nat) (w : World) (hp : w.heap[p]? = some (.cells (clC A wt (some ⟨T, 0, none⟩) rp) 60 (0, 0))) (hT : w.heap[T]? = some (.cells (trC i s false q last 3 tg ck a len cap sz size next dn asked) 65 (0, 0))) (hne : p ≠ T) :
    Calls Try.prog 34 #[.pointer (some ⟨p, 0, none⟩), cmV 3 i s true 0 true a2 len2 cap2 false false false 0 0 0 0 0] w (EndPost [p, T] w p A wt i s false a2 len2 cap2 0) := by
  have HP : Hid (w.heap[p]? = some (.cells (clC A wt (some ⟨T, 0, none⟩) rp) 60 (0, 0))) := hp
  have HT : Hid (w.heap[T]? = some (.cells (trC i s false q last 3 tg ck a len cap sz size next dn asked) 65 (0, 0))) := hT
  clear hp hT
  go_enter Try.func34, Try.ntmps34
  go_wp2_with (refine wpList_load_by rfl 54 _ rfl ⟨w.heap.size, 0, none⟩ _ rfl (loadCM _ _ 3 i s true 0 true a2 len2 cap2 false false false 0 0 0 0 0 _ (at11 _ _ _ rfl)) ?_)
  with_reducible refine (behind_3 p T A wt rp i s q last tg ck a len cap sz size next dn asked a2 len2 cap2 _ (ext11 HP.out) (ext11 HT.out) hne).mono ?_
  rintro e w1 ⟨g, rfl, hg1, hg2, hg3, hg4⟩
  have H4 : Hid _ := hg4
  have H3 : Hid _ := hg3
  have H2 : Hid _ := hg2
  have hg5 : w.heap.size ≤ g := by simp at hg1; omega
  clear hg1 hg2 hg3 hg4
  go_wp2_with fail
  go_ret
  exact ⟨g, rfl, hg5, (Kp.of (Below.al (Below.refl _ _) _)).trans H2.out, H3.out, H4.out⟩

end Go.Proofs.Ytenfbebdfodmdaa
