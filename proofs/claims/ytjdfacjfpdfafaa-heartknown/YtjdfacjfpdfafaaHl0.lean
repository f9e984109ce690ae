/-
  The walk of a watch's Hear where a beat is no news.
-/
import Derived.Test.YtjdfacjfpdfafaaHl
namespace Go.Proofs.Ytjdfacjfpdfafaa
open Go.RowKit

set_option linter.unusedSimpArgs false in
set_option maxHeartbeats 4000000 in
set_option maxRecDepth 100000 in
theorem hear_yes0 {w : World} {base p k b : Nat} {P : List (Option Nat)} {S : List Nd} (hw : IsW w base p P S) {x : Nd} (hx : S[k]? = some x) (n d0 d1 d2 d3 d4 d5 d6 d7 : Int) (r : Bool) (now : Int) (hi : 1 ≤ k ∧ k ≤ 127) (hd : 0 ≤ d0 ∧ d0 < 256) (h : btB (1792 + (k : Int)) n d0 d1 d2 d3 d4 d5 d6 d7 r = true) (hp : P[k]? = some (some b)) (ht : tmB now = true) (hk : newsK x d0 = 0) : Calls Try.prog 20 #[pt p, frV (1792 + (k : Int)) n d0 d1 d2 d3 d4 d5 d6 d7 r, .int .i64 now] w fun e w' => e = .returned noE ∧ IsW w' base p P (S.set k (x.beat d0 now)) ∧ Kt base w w' := by
  have BT := fun W => beaten_any (1792 + (k : Int)) n d0 d1 d2 d3 d4 d5 d6 d7 r (by omega) hd W
  have TM := fun W => isTime_any now W
  rw [ht] at TM
  simp only [btV, h, if_true] at BT
  rw [show (1792 : Int) + (k : Int) - 1792 = (k : Int) from by omega] at BT
  have gk : (k : Int) < 128 := by omega
  have gk0 : (0 : Int) ≤ (k : Int) := by omega
  have gn : k < 128 := by omega
  obtain ⟨_, x', hx', xW, gb⟩ := hw.some_ k b hp
  rw [hx] at hx'
  cases hx'
  have NW : Hid (∀ W, Below w.heap.size w W → Calls Try.prog 38 #[pt b, .int .u8 d0] W fun e w' => e = .returned (.int .u8 0) ∧ w' = W) := fun W hW => by
    have := news_any (blk11 hW gb) d0
    rwa [hk] at this
  have ok : (x.beat d0 now).Ok := by
    obtain ⟨o1, o2, _⟩ := hw.ok x (List.mem_of_getElem? hx)
    have := tmB_of ht
    exact ⟨o1, o2, this.1, this.2, hd.1, hd.2⟩
  have lb : b < w.heap.size := lt_of_heap gb
  have cw0 : w.cell? ⟨p, k, none⟩ = some (.pointer (some ⟨b, 0, none⟩)) := cellW hw.row hp
  have HW : Hid (IsW w base p P S ∧ P[k]? = some (some b) ∧ 0 < x.W ∧ (x.beat d0 now).Ok) := ⟨hw, hp, xW, ok⟩
  have HB : Hid (w.heap[b]? = some (.cells (ndC x) 87 (0, 0))) := gb
  clear hi hd h ht hx hw hp xW ok gb hk
  go_enter Try.func20, Try.ntmps20
  go_wp2_with fail
  refine (BT _).mono ?_
  rintro e w1 ⟨rfl, hb⟩
  have g6 : w1.heap[w.heap.size + 1]? = some (.cells (evA 0 0 0) 54 (0, 0)) := blk11 hb (at11 _ _ _ (by simp))
  have B1 : Below w.heap.size w w1 := Below.andThen (by repeat (first | exact Below.refl _ _ | apply Below.drew | apply Below.al)) hb
  have gb : w1.heap[b]? = some (.cells (ndC x) 87 (0, 0)) := blk11 B1 HB.out
  have cw : w1.cell? ⟨p, k, none⟩ = some (.pointer (some ⟨b, 0, none⟩)) := cl11 B1 cw0
  have c1 : w1.cell? ⟨b, 1, none⟩ = some (.bool x.on) := by rw [cell_of_row w1 _ 1 _ _ _ gb]; rfl
  have c2 : w1.cell? ⟨b, 2, none⟩ = some (.int .u8 x.s) := by rw [cell_of_row w1 _ 2 _ _ _ gb]; rfl
  have c3 : w1.cell? ⟨b, 3, none⟩ = some (.int .i64 x.t) := by rw [cell_of_row w1 _ 3 _ _ _ gb]; rfl
  have z1 := froz11 w1 b 1 _ _ gb
  have z2 := froz11 w1 b 2 _ _ gb
  have z3 := froz11 w1 b 3 _ _ gb
  have lb1 : b < w1.heap.size := lt_of_heap gb
  obtain ⟨Z, hZ⟩ : ∃ Z, Hid (Z = ((w1.setCell ⟨b, 1, none⟩ (.bool true)).setCell ⟨b, 2, none⟩ (.int .u8 d0)).setCell ⟨b, 3, none⟩ (.int .i64 now)) := ⟨_, rfl⟩
  have kz : Kp [b] w1 Z := by rw [hZ.out]; exact (((Kp.refl _ _).set _ _ (.inl (by simp))).set _ _ (.inl (by simp))).set _ _ (.inl (by simp))
  have gz : Z.heap[b]? = some (.cells (ndC (x.beat d0 now)) 87 (0, 0)) := by
    rw [hZ.out, heap_setCell_same _ _ _ _ _ _ (heap_setCell_same _ _ _ _ _ _ (heap_setCell_same _ _ _ _ _ _ gb))]
    rfl
  have UP := (HW.out.1.next B1).upd HW.out.2.1 (x := x.beat d0 now) HW.out.2.2.1 HW.out.2.2.2 kz gz
  have g6z : Z.heap[w.heap.size + 1]? = some (.cells (evA 0 0 0) 54 (0, 0)) := kz.at (by simp; omega) g6
  have KR : ∀ C : Array Value, Kp [w.heap.size + 1] Z (Z.setRow (w.heap.size + 1) C) := fun C => (Kp.refl _ _).row _ _ (.inl (by simp))
  have FIN : Hid (∀ C, IsW (Z.setRow (w.heap.size + 1) C) base p P (S.set k (x.beat d0 now)) ∧ Kt base w (Z.setRow (w.heap.size + 1) C)) := fun C => ⟨UP.1.kp (KR C) g6z (by decide) (by decide), (((Kt.of B1).trans UP.2).row _ _ (by omega))⟩
  have GZ : Hid (Z.heap[w.heap.size + 1]? = some (.cells (evA 0 0 0) 54 (0, 0))) := g6z
  rw [hZ.out] at g6z
  clear hb BT UP KR kz gz cw0 gb g6
  go_wp2_with fail
  refine (TM _).mono ?_
  rintro e w2 ⟨rfl, rfl⟩
  go_wp2_with fail
  refine (NW.out _ B1).mono ?_
  rintro e w3 ⟨rfl, rfl⟩
  clear NW TM
  go_wp2_with (refine wpList_store_row rfl 54 _ _ rfl (w.heap.size + 1) (evA 0 0 0) rfl rfl 54 _ g6z infoT rfl (evA_one _ _ _) ?_)
  rw [← hZ.out]
  have hc := fun j => cell_of_row (Z.setRow (w.heap.size + 1) (evA 0 0 0)) (w.heap.size + 1) j _ _ _ (setRow_heap Z _ (evA 0 0 0) (evA 0 0 0) _ _ GZ.out)
  refine bodyPost_ret (v := noE) ?_ rfl ⟨rfl, FIN.out (evA 0 0 0)⟩
  simp [results, Try.results20, go_sem, hc]
#print axioms hear_yes0
end Go.Proofs.Ytjdfacjfpdfafaa
